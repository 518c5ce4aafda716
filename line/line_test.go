package line

import (
	"math/rand"
	"testing"

	"floodgate/api"
	"floodgate/wide"
)

func small(r *rand.Rand) Line {
	return Line{X: uint64(r.Intn(10)), Y: wide.Of(uint64(r.Intn(20))), M: uint64(r.Intn(4))}
}

// grown is the line, tick by tick.
func grown(l Line, x uint64) uint64 {
	y := l.Y.Lo
	for i := l.X; i < x; i++ {
		y += l.M
	}
	return y
}

func TestAtAndReach(t *testing.T) {
	r := rand.New(rand.NewSource(5))
	for range 500 {
		l := small(r)
		for x := range uint64(20) {
			if At(l, x) != wide.Of(grown(l, x)) {
				t.Fatalf("At(%v, %d): %v", l, x, At(l, x))
			}
		}
		for w := range uint64(40) {
			want := uint64(api.Never)
			for x := range uint64(80) {
				if grown(l, x) >= w {
					want = x
					break
				}
			}
			if Reach(l, wide.Of(w)) != want {
				t.Fatalf("Reach(%v, %d): %d instead of %d", l, w, Reach(l, wide.Of(w)), want)
			}
		}
	}
	l := Line{10, wide.Of(5), 2}
	if At(l, 3) != wide.Of(5) || At(l, 12) != wide.Of(9) || Reach(l, wide.Of(8)) != 12 {
		t.Error("line {10, 5, 2}")
	}
}

func TestGreatNumbers(t *testing.T) {
	most := wide.Num{Hi: 1<<64 - 1, Lo: 1<<64 - 1}
	for i, c := range []struct {
		l    Line
		w    wide.Num
		want uint64
	}{
		{Line{5, wide.Of(1), 1}, wide.Of(1), 0}, {Line{5, wide.Of(1), 0}, wide.Of(2), api.Never}, {Line{5, wide.Of(9), 0}, wide.Of(9), 0},
		{Line{1<<64 - 1, wide.Of(9), 1}, wide.Of(3), 0}, {Line{1<<64 - 1, wide.Of(9), 1}, wide.Of(10), api.Never}, {Line{1<<64 - 1, wide.Of(9), 1}, most, api.Never},
		{Line{0, wide.Num{}, 1}, wide.Of(api.Never - 1), api.Never - 1}, {Line{0, wide.Num{}, 1}, wide.Of(api.Never), api.Never}, {Line{0, wide.Num{}, 1}, wide.Num{Hi: 1}, api.Never},
		{Line{7, wide.Num{}, 1}, wide.Of(api.Never - 8), api.Never - 1}, {Line{7, wide.Num{}, 1}, wide.Of(api.Never - 7), api.Never}, {Line{7, wide.Num{}, 1}, wide.Of(1<<64 - 3), api.Never},
		{Line{api.Never - 2, wide.Num{}, 5}, wide.Of(5), api.Never - 1}, {Line{api.Never - 2, wide.Num{}, 5}, wide.Of(6), api.Never}, {Line{api.Never, wide.Num{}, 5}, wide.Of(1), api.Never},
		{Line{3, wide.Num{Hi: 2}, 1<<64 - 1}, wide.Num{Hi: 3}, 5}, {Line{3, wide.Num{Hi: 2}, 1<<64 - 1}, wide.Num{Hi: 2, Lo: 1<<64 - 1}, 4},
	} {
		if x := Reach(c.l, c.w); x != c.want {
			t.Errorf("%d: %d", i, x)
		}
	}
	// the line goes on modulo 2^128
	if y := At(Line{0, most, 1}, 1); y != (wide.Num{}) {
		t.Error(y)
	}
	if y := At(Line{1, wide.Of(7), 1<<64 - 1}, 1<<64-1); y != (wide.Num{Hi: 1<<64 - 3, Lo: 9}) {
		t.Error(y)
	}
}

func TestLower(t *testing.T) {
	r := rand.New(rand.NewSource(6))
	for range 5000 {
		a, b := small(r), small(r)
		x := max(a.X, b.X)
		want := a
		if grown(b, x) < grown(a, x) {
			want = b
		}
		low := Lower(a, b)
		if low != want {
			t.Fatalf("Lower(%v, %v): %v", a, b, low)
		}
		if b.M = a.M; a.M == 0 {
			continue
		}
		// 5.4
		low = Lower(a, b)
		other := a
		if low == a {
			other = b
		}
		for n := range uint64(20) {
			if wide.Compare(At(low, x+n), At(other, x+n)) > 0 {
				t.Fatalf("Lower(%v, %v) is above at %d", a, b, x+n)
			}
			w := wide.Of(max(a.Y.Lo, b.Y.Lo) + 1 + n)
			if Reach(low, w) < Reach(other, w) {
				t.Fatalf("Lower(%v, %v) reaches %v earlier", a, b, w)
			}
		}
	}
}

// TestWhatFollows: 5.3.
func TestWhatFollows(t *testing.T) {
	r := rand.New(rand.NewSource(7))
	for range 2000 {
		l, w := small(r), wide.Of(uint64(r.Intn(60)))
		x := Reach(l, w)
		if x != api.Never && wide.Compare(At(l, x), w) < 0 || x > 0 && wide.Compare(At(l, x-1), w) >= 0 {
			t.Fatalf("Reach(%v, %v): %d", l, w, x)
		}
	}
}
