package real

import (
	"math/rand"
	"testing"

	"floodgate/api"
	"floodgate/curve"
	"floodgate/lines"
	"floodgate/wide"
)

func TestExample(t *testing.T) {
	c := api.Curve{M1: 65536, M2: 65536}
	l := Wake(Leaf{}, c, 10, 100)
	if !l.Has || l.Eligible != 0 || l.Deadline != 110 || l.Picked != 0 || l.Deadlines != lines.Start(c, 10, wide.Num{}) || l.Readies != lines.Ready(c, 10, wide.Num{}) {
		t.Error(l)
	}
	l = Took(l, 100, 50)
	if l.Eligible != 110 || l.Deadline != 160 || l.Picked != 100 {
		t.Error(l)
	}
	if p := Passed(l, 7); p.Eligible != 110 || p.Deadline != 117 || p.Picked != 100 || p.Deadlines != l.Deadlines {
		t.Error(p)
	}
	for _, head := range []int{0, -1, -1 << 63} {
		a, b, c := Passed(l, head), Took(l, 5, head), Wake(l, c, 500, head)
		if a.Eligible != api.Never || a.Deadline != api.Never || b.Eligible != api.Never || b.Deadline != api.Never || b.Picked != 105 || c.Eligible != api.Never || c.Deadline != api.Never {
			t.Error(a, b, c)
		}
	}
	if x := Took(l, -7, 50); x != l {
		t.Error(x)
	}
}

func TestWakesMeet(t *testing.T) {
	c := api.Curve{D: 20, M2: 65536}
	l := Took(Wake(Leaf{}, c, 0, 100), 100, 0)
	w := Wake(l, c, 300, 40)
	y := wide.Mul(100, api.Unit)
	if w.Deadlines != lines.Meet(l.Deadlines, lines.Start(c, 300, y)) || w.Readies != lines.Meet(l.Readies, lines.Ready(c, 300, y)) {
		t.Error(w)
	}
	if w.Eligible != 0 || w.Deadline != 360 {
		t.Error(w.Eligible, w.Deadline)
	}
	// without Has the old runs count for nothing
	l.Has = false
	if w = Wake(l, c, 300, 40); w.Deadlines != lines.Start(c, 300, y) || w.Readies != lines.Ready(c, 300, y) {
		t.Error(w)
	}
}

func TestGreatNumbers(t *testing.T) {
	l := Wake(Leaf{Picked: 1<<64 - 1}, api.Curve{M1: api.MaxSlope, M2: api.MaxSlope}, 5, 3)
	// the bytes go modulo 2^64: picked and head are 2
	if l.Eligible != 0 || l.Deadline != 0 {
		t.Error(l)
	}
	l = Took(l, 2, 1)
	if l.Picked != 1 || l.Deadline != 0 {
		t.Error(l)
	}
	if l := Wake(Leaf{}, api.Curve{M1: 1, M2: 1}, api.Never-1, 1); l.Deadline != api.Never || l.Eligible != 0 {
		t.Error(l)
	}
	if l := Wake(Leaf{}, api.Curve{}, 3, 1); l.Deadline != api.Never || l.Eligible != 0 || !l.Has {
		t.Error(l)
	}
}

type wake struct{ at, picked uint64 }

func small(r *rand.Rand) api.Curve {
	d, m := uint64(1+r.Intn(20)), uint64(1+r.Intn(40000))
	return [3]api.Curve{{M1: m, M2: m}, {M1: m + uint64(1+r.Intn(40000)), D: d, M2: m}, {D: d, M2: m}}[r.Intn(3)]
}

// least is, of all wakes, the least of what was picked till then and the service since.
func least(c api.Curve, l []wake, x uint64) wide.Num {
	var out wide.Num
	for i, w := range l {
		y, _ := wide.Add(wide.Mul(w.picked, api.Unit), curve.Service(c, x-w.at))
		if i == 0 || wide.Compare(y, out) < 0 {
			out = y
		}
	}
	return out
}

// TestWhatFollows: 20.3 to 20.5.
func TestWhatFollows(t *testing.T) {
	r := rand.New(rand.NewSource(23))
	for range 2000 {
		c, now := small(r), uint64(r.Intn(50))
		var l Leaf
		var wakes []wake
		for range 1 + r.Intn(6) {
			head := 1 + r.Intn(30)
			wakes = append(wakes, wake{now, l.Picked})
			l = Wake(l, c, now, head)
			for {
				if l.Eligible > l.Deadline {
					t.Fatalf("%v: eligible behind its deadline", l)
				}
				for n := range uint64(30) {
					x := now + c.D + n
					if lines.At(l.Deadlines, x) != least(c, wakes, x) {
						t.Fatalf("%v, %v at %d: %v", c, wakes, x, lines.At(l.Deadlines, x))
					}
				}
				if d := l.Deadline; d > now+c.D && wide.Compare(least(c, wakes, d-1), wide.Mul(l.Picked+uint64(head), api.Unit)) >= 0 {
					t.Fatalf("%v: there is a tick ahead of the deadline", l)
				}
				if r.Intn(3) == 0 {
					break
				}
				sent := head
				if head = 1 + r.Intn(30); r.Intn(3) == 0 {
					l = Passed(l, head)
				} else {
					l = Took(l, sent, head)
				}
			}
			now += uint64(r.Intn(80))
		}
	}
}
