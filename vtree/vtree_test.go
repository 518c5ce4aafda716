package vtree

import (
	"maps"
	"math/rand"
	"slices"
	"testing"

	"floodgate/api"
)

func TestExample(t *testing.T) {
	x := New()
	x.Set(1, 7, 0)
	x.Set(2, 3, 10)
	for now, want := range map[uint64]int{0: 1, 9: 1, 10: 2, 1<<64 - 1: 2} {
		if id, ok := x.Pick(now); id != want || !ok {
			t.Errorf("Pick(%d): %d, %v", now, id, ok)
		}
	}
	if low, ok := x.Low(); low != 3 || !ok || x.Fit() != 0 {
		t.Error(low, ok, x.Fit())
	}
}

func TestNilAndEmpty(t *testing.T) {
	for _, x := range []*Table{nil, {}, New()} {
		want := api.ErrNone
		if x == nil {
			want = api.ErrState
			if x.Set(1, 2, 3) != want {
				t.Error("Set of nil")
			}
		}
		if a, b, e := x.Get(1); a != 0 || b != 0 || e != want || x.Drop(1) != want {
			t.Error(a, b, e)
		}
		if id, ok := x.Pick(1<<64 - 1); id != 0 || ok || x.Fit() != api.Never || x.Len() != 0 || len(x.IDs()) != 0 {
			t.Error(id, ok)
		}
		if low, ok := x.Low(); low != 0 || ok {
			t.Error(low, ok)
		}
		if x != nil && (x.Set(1, 2, 3) != api.OK || x.Len() != 1 || x.Fit() != 3) {
			t.Error("Set of an empty table")
		}
	}
}

func TestNever(t *testing.T) {
	x := New()
	x.Set(1, 5, api.Never)
	x.Set(2, 4, 1<<64-1)
	if id, ok := x.Pick(1<<64 - 1); id != 0 || ok || x.Fit() != api.Never {
		t.Error(id, ok, x.Fit())
	}
	if low, ok := x.Low(); low != 4 || !ok {
		t.Error("a child that never fits has a virtual time all the same:", low, ok)
	}
	x.Drop(1)
	if x.Fit() != api.Never {
		t.Error("a tick above Never is told")
	}
	x.Set(3, 1<<64-1, api.Never-1)
	if id, ok := x.Pick(api.Never - 1); id != 3 || !ok || x.Fit() != api.Never-1 {
		t.Error(id, ok)
	}
}

// TestAgainstAMap: 15.1 to 15.3.
func TestAgainstAMap(t *testing.T) {
	r := rand.New(rand.NewSource(19))
	ticks := []uint64{0, 1, 2, 3, 5, 8, api.Never - 1, api.Never, api.Never + 1, 1<<64 - 1}
	for range 60 {
		x, m := New(), map[int][2]uint64{}
		for range 100 {
			id := r.Intn(9) - 1
			if r.Intn(3) > 0 {
				m[id] = [2]uint64{ticks[r.Intn(len(ticks))], ticks[r.Intn(len(ticks))]}
				if e := x.Set(id, m[id][0], m[id][1]); e != api.OK {
					t.Fatal(e)
				}
			} else {
				want := api.OK
				if _, ok := m[id]; !ok {
					want = api.ErrNone
				}
				delete(m, id)
				if e := x.Drop(id); e != want {
					t.Fatal(e, want)
				}
			}
			ids := slices.Sorted(maps.Keys(m))
			if x.Len() != len(m) || !slices.Equal(x.IDs(), ids) {
				t.Fatal(x.IDs(), ids)
			}
			fit, low := uint64(api.Never), uint64(1<<64-1)
			for _, id := range ids {
				a, b, e := x.Get(id)
				if a != m[id][0] || b != m[id][1] || e != api.OK {
					t.Fatal(a, b, e)
				}
				fit, low = min(fit, b), min(low, a)
			}
			if len(ids) == 0 {
				low = 0
			}
			if got, ok := x.Low(); got != low || ok != (len(ids) > 0) || x.Fit() != fit {
				t.Fatal(got, ok, low, x.Fit(), fit)
			}
			for _, now := range ticks {
				best, has := 0, false
				for _, id := range ids {
					if m[id][1] <= now && m[id][1] < api.Never && (!has || m[id][0] < m[best][0]) {
						best, has = id, true
					}
				}
				if id, ok := x.Pick(now); id != best || ok != has || ok != (fit <= now && fit < api.Never) {
					t.Fatal(id, ok, best, has)
				}
			}
		}
	}
}
