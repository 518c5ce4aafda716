package wake

import (
	"math/rand"
	"testing"

	"floodgate/api"
)

const most = 1<<64 - 1

func TestNextAndWait(t *testing.T) {
	for i, c := range []struct{ now, until, due, next, wait uint64 }{
		{5, 9, 7, 9, 4}, {5, 0, 2, 5, 0}, {5, 6, 20, 20, 15}, {0, 0, 0, 0, 0}, {5, 9, api.Never, api.Never, api.Never}, {5, 9, most, api.Never, api.Never},
		{5, 9, api.Never - 1, api.Never - 1, api.Never - 6}, {5, api.Never, 7, api.Never, api.Never}, {api.Never, 1, 2, api.Never, api.Never}, {most, 1, 2, api.Never, api.Never}, {api.Never - 1, 1, 2, api.Never - 1, 0},
		{0, 0, api.Never - 1, api.Never - 1, api.Never - 1},
	} {
		if v := Next(c.now, c.until, c.due); v != c.next {
			t.Errorf("%d: Next: %d", i, v)
		}
		if v := Wait(c.now, c.until, c.due); v != c.wait {
			t.Errorf("%d: Wait: %d", i, v)
		}
	}
}

func TestIdle(t *testing.T) {
	for i, c := range []struct{ now, until, due, end, want uint64 }{
		{5, 9, 20, 15, 6}, {5, 9, 20, 30, 11}, {5, 9, 20, 9, 0}, {5, 9, 20, 3, 0}, {5, 9, 7, 30, 0}, {5, 0, api.Never, 30, 25}, {5, 0, 6, 30, 1}, {5, 40, 50, 30, 0},
		{5, 0, api.Never, most, api.Never - 5}, {5, 0, most, api.Never, api.Never - 5}, {most, 0, 1, most, 0},
	} {
		if v := Idle(c.now, c.until, c.due, c.end); v != c.want {
			t.Errorf("%d: %d", i, v)
		}
	}
}

// TestWhatFollows: 26.3 and 26.4, and each tick by itself.
func TestWhatFollows(t *testing.T) {
	r := rand.New(rand.NewSource(28))
	for range 5000 {
		now, until, due, end := uint64(r.Intn(20)), uint64(r.Intn(30)), uint64(r.Intn(40)), uint64(r.Intn(50))
		if r.Intn(5) == 0 {
			due = api.Never
		}
		next := Next(now, until, due)
		for later := now; later <= next && later < 60; later++ {
			if Next(later, until, due) != next {
				t.Fatal(now, until, due, later)
			}
			if later <= end && Idle(now, until, due, later)+Idle(later, until, due, end) != Idle(now, until, due, end) {
				t.Fatal(now, until, due, end, later)
			}
		}
		idle := uint64(0)
		for x := now; x < end; x++ {
			if x >= until && x < next {
				idle++
			}
		}
		if Idle(now, until, due, end) != idle {
			t.Fatal(now, until, due, end, idle)
		}
	}
}
