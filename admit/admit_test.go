package admit

import (
	"math/rand"
	"slices"
	"testing"

	"floodgate/api"
	"floodgate/curve"
	"floodgate/sum"
	"floodgate/wide"
)

func linear(m uint64) api.Curve { return api.Curve{M1: m, M2: m} }

func TestExamples(t *testing.T) {
	for i, c := range []struct {
		t    int
		l    []api.Curve
		want api.Errno
		knee uint64
		full bool
	}{
		{1, []api.Curve{linear(65536)}, api.OK, 0, false}, {1, []api.Curve{linear(65537)}, api.ErrAdmit, 0, true},
		{2, []api.Curve{{M1: 40000, D: 10}}, api.ErrAdmit, 10, true}, {2, []api.Curve{{M1: 32768, D: 10}}, api.OK, 0, false},
		{1, nil, api.OK, 0, false}, {api.MaxT, []api.Curve{linear(1)}, api.OK, 0, false}, {api.MaxT, []api.Curve{linear(1), linear(1)}, api.ErrAdmit, 0, true},
		{1, []api.Curve{linear(30000), linear(35536)}, api.OK, 0, false}, {1, []api.Curve{linear(30000), linear(35537)}, api.ErrAdmit, 0, true},
		{1, []api.Curve{{M1: 70000, D: 5, M2: 1}, {M1: 70000, D: 3, M2: 1}}, api.ErrAdmit, 3, true},
		{1, []api.Curve{{M1: 60000, D: 5, M2: 1}, {D: 5, M2: 65000}}, api.OK, 0, false}, {1, []api.Curve{{M1: 60000, D: 5, M2: 1}, {D: 4, M2: 65000}}, api.ErrAdmit, 5, true},
		{3, []api.Curve{linear(21845)}, api.OK, 0, false}, {3, []api.Curve{linear(21846)}, api.ErrAdmit, 0, true},
		{1, []api.Curve{{D: api.MaxDelay, M2: api.MaxSlope}}, api.ErrAdmit, 0, true},
		{0, []api.Curve{linear(1)}, api.ErrArg, 0, false}, {-1, nil, api.ErrArg, 0, false}, {api.MaxT + 1, nil, api.ErrArg, 0, false},
		{1, []api.Curve{linear(70000), {M1: 1, D: 1, M2: 2}}, api.ErrCurve, 0, false}, {0, []api.Curve{{M1: 1, D: 1, M2: 2}}, api.ErrArg, 0, false},
	} {
		if e := Fits(c.t, c.l); e != c.want {
			t.Errorf("%d: Fits: %v", i, e)
		}
		if k, full := Full(c.t, c.l); k != c.knee || full != c.full {
			t.Errorf("%d: Full: %d, %v", i, k, full)
		}
		if m, e := Room(c.t, c.l); e != c.want || e != api.OK && m != 0 {
			t.Errorf("%d: Room: %d, %v", i, m, e)
		}
	}
}

func small(r *rand.Rand, most int) api.Curve {
	d, m := uint64(r.Intn(6)+1), uint64(r.Intn(most))
	return [4]api.Curve{{}, linear(m + 1), {M1: m + 1 + uint64(r.Intn(most)), D: d, M2: m}, {D: d, M2: m + 1}}[r.Intn(4)]
}

func several(r *rand.Rand) (int, []api.Curve) {
	t := r.Intn(4) + 1
	l := make([]api.Curve, r.Intn(5))
	for i := range l {
		l[i] = small(r, api.Unit/t*3/5)
	}
	return t, l
}

// carries tells, tick by tick, whether the link carries them.
func carries(t int, l []api.Curve) bool {
	for n := uint64(1); n < 3000; n++ {
		if sum.Service(l, n).Lo*uint64(t) > n*api.Unit {
			return false
		}
	}
	return wide.Compare(wide.Mul(sum.Slope(l).Lo, uint64(t)), wide.Of(api.Unit)) <= 0
}

func TestTickByTick(t *testing.T) {
	r := rand.New(rand.NewSource(12))
	yes := 0
	for range 400 {
		ticks, l := several(r)
		fits := Fits(ticks, l) == api.OK
		if fits != carries(ticks, l) {
			t.Fatalf("Fits(%d, %v): %v", ticks, l, fits)
		}
		k, full := Full(ticks, l)
		if full == fits || k != 0 && sum.Service(l, k).Lo*uint64(ticks) <= k*api.Unit {
			t.Fatalf("Full(%d, %v): %d, %v", ticks, l, k, full)
		}
		for _, x := range sum.Knees(l) {
			if full && (k == 0 || x < k) && sum.Service(l, x).Lo*uint64(ticks) > x*api.Unit {
				t.Fatalf("Full(%d, %v): %d instead of %d", ticks, l, k, x)
			}
		}
		if fits {
			yes++
		}
	}
	if yes < 50 || yes > 350 {
		t.Errorf("%d of 400 fit", yes)
	}
}

// TestWhatFollows: 8.4 and 8.5.
func TestWhatFollows(t *testing.T) {
	r := rand.New(rand.NewSource(13))
	for range 1000 {
		ticks, l := several(r)
		kept := slices.Clone(l)
		room, err := Room(ticks, l)
		if err != Fits(ticks, l) || err != api.OK && room != 0 {
			t.Fatalf("Room(%d, %v): %d, %v", ticks, l, room, err)
		}
		turned := slices.Clone(l)
		slices.Reverse(turned)
		if again, e := Room(ticks, turned); again != room || e != err {
			t.Fatalf("%d, %v: the order counts", ticks, l)
		}
		if err != api.OK {
			continue
		}
		for i := range l {
			if Fits(ticks, slices.Delete(slices.Clone(l), i, i+1)) != api.OK {
				t.Fatalf("%d, %v: not without %d", ticks, l, i)
			}
		}
		if room > 0 && Fits(ticks, append(slices.Clone(l), linear(room))) != api.OK || Fits(ticks, append(slices.Clone(l), linear(room+1))) != api.ErrAdmit {
			t.Fatalf("Room(%d, %v): %d", ticks, l, room)
		}
		if !slices.Equal(l, kept) {
			t.Fatal("the list is changed")
		}
	}
	if m, err := Room(1, nil); m != curve.Scale(1) || err != api.OK {
		t.Error(m, err)
	}
}
