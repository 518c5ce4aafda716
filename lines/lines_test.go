package lines

import (
	"math/rand"
	"testing"

	"floodgate/api"
	"floodgate/curve"
	"floodgate/line"
	"floodgate/wide"
)

var (
	none    = api.Curve{}
	linear  = api.Curve{M1: 2, M2: 2}
	concave = api.Curve{M1: 5, D: 3, M2: 2}
	convex  = api.Curve{D: 3, M2: 2}
	bad     = api.Curve{M1: 1, D: 3, M2: 2}
)

func TestRuns(t *testing.T) {
	y := wide.Of(100)
	one := func(x, m uint64) Run { return Run{Then: line.Line{X: x, Y: y, M: m}} }
	two := Run{First: line.Line{X: 10, Y: y, M: 5}, Then: line.Line{X: 10, Y: wide.Of(109), M: 2}, Both: true}
	for i, c := range []struct {
		c            api.Curve
		start, ready Run
	}{
		{none, one(10, 0), one(10, 0)}, {bad, one(10, 0), one(10, 0)}, {linear, one(10, 2), one(10, 2)}, {concave, two, two}, {convex, one(13, 2), one(10, 2)},
	} {
		if r := Start(c.c, 10, y); r != c.start {
			t.Errorf("%d: Start: %v", i, r)
		}
		if r := Ready(c.c, 10, y); r != c.ready {
			t.Errorf("%d: Ready: %v", i, r)
		}
	}
	// the second line begins modulo 2^128
	most := wide.Num{Hi: 1<<64 - 1, Lo: 1<<64 - 1}
	if r := Start(concave, 1, most); r.Then.Y != wide.Of(8) || r.First.Y != most {
		t.Error(r)
	}
	r := Start(api.Curve{M1: 3, D: 2, M2: 1}, 10, y)
	if At(r, 10) != y || At(r, 12) != wide.Of(106) || At(r, 13) != wide.Of(107) || Reach(r, wide.Of(105)) != 12 {
		t.Error("Start of {3, 2, 1}")
	}
}

func TestFirstCountsOnlyWithBoth(t *testing.T) {
	r := Run{First: line.Line{X: 50, Y: wide.Of(1), M: 1}, Then: line.Line{X: 2, Y: wide.Of(7), M: 3}}
	if At(r, 4) != wide.Of(13) || Reach(r, wide.Of(10)) != 3 {
		t.Error("First counts")
	}
	r.Both = true
	if At(r, 4) != wide.Of(1) || Reach(r, wide.Of(10)) != 59 {
		t.Error("First does not count")
	}
	if At(Run{First: line.Line{Y: wide.Of(9)}, Then: line.Line{Y: wide.Of(4)}, Both: true}, 4) != wide.Of(4) {
		t.Error("Then is the lesser one")
	}
}

func TestMeetLineByLine(t *testing.T) {
	a := Run{First: line.Line{X: 1, Y: wide.Of(9), M: 5}, Then: line.Line{X: 1, Y: wide.Of(20), M: 1}, Both: true}
	b := Run{First: line.Line{X: 2, Y: wide.Of(3), M: 5}, Then: line.Line{X: 2, Y: wide.Of(30), M: 1}, Both: true}
	if r := Meet(a, b); r != (Run{First: b.First, Then: a.Then, Both: true}) {
		t.Error(r)
	}
	b.Both = false
	if r := Meet(a, b); r != (Run{First: b.First, Then: a.Then, Both: true}) {
		t.Error("First counts whatever b's Both is:", r)
	}
	if r := Meet(b, a); r != (Run{Then: a.Then}) {
		t.Error("without Both First is empty:", r)
	}
	if r := Meet(a, Run{}); r != (Run{Both: true}) {
		t.Error(r)
	}
}

func small(r *rand.Rand) api.Curve {
	d, m := uint64(r.Intn(5)+1), uint64(r.Intn(4))
	return [4]api.Curve{{}, {M1: m + 1, M2: m + 1}, {M1: m + 2, D: d, M2: m}, {D: d, M2: m + 1}}[r.Intn(4)]
}

// TestStartIsService: 6.3.
func TestStartIsService(t *testing.T) {
	r := rand.New(rand.NewSource(8))
	for range 500 {
		c, x, y := small(r), uint64(r.Intn(9)), wide.Of(uint64(r.Intn(50)))
		run := Start(c, x, y)
		for n := range uint64(20) {
			want, _ := wide.Add(y, curve.Service(c, n))
			if At(run, x+n) != want {
				t.Fatalf("Start(%v, %d, %v) at %d: %v", c, x, y, x+n, At(run, x+n))
			}
		}
	}
}

// TestMeeting: 6.4.
func TestMeeting(t *testing.T) {
	r := rand.New(rand.NewSource(9))
	for range 3000 {
		c := small(r)
		ya, yb := uint64(r.Intn(30)), uint64(r.Intn(30))
		a, b := Start(c, uint64(r.Intn(9)), wide.Of(ya)), Start(c, uint64(r.Intn(9)), wide.Of(yb))
		m := Meet(a, b)
		x := max(a.Then.X, b.Then.X)
		for n := range uint64(20) {
			want := At(a, x+n)
			if v := At(b, x+n); wide.Compare(v, want) < 0 {
				want = v
			}
			if At(m, x+n) != want {
				t.Fatalf("Meet(%v, %v) at %d: %v", a, b, x+n, At(m, x+n))
			}
			w := wide.Of(max(ya, yb) + 1 + n)
			if Reach(m, w) != max(Reach(a, w), Reach(b, w)) {
				t.Fatalf("Meet(%v, %v) reaches %v at %d", a, b, w, Reach(m, w))
			}
		}
	}
}
