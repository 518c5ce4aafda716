package eltree

import (
	"maps"
	"math/rand"
	"slices"
	"testing"

	"floodgate/api"
)

func TestExample(t *testing.T) {
	x := New()
	x.Set(1, 5, 9)
	x.Set(2, 3, 20)
	for now, want := range map[uint64]int{3: 2, 4: 2, 5: 1, 1 << 63: 1, 1<<64 - 1: 1} {
		if id, ok := x.Pick(now); id != want || !ok {
			t.Errorf("Pick(%d): %d, %v", now, id, ok)
		}
	}
	if id, ok := x.Pick(2); id != 0 || ok || x.Next() != 3 {
		t.Error(id, ok, x.Next())
	}
}

func TestNilAndEmpty(t *testing.T) {
	for _, x := range []*Table{nil, {}, New()} {
		want := api.ErrNone
		if x == nil {
			want = api.ErrState
			if x.Set(1, 2, 3) != want {
				t.Error("Set of nil")
			}
		}
		if a, b, e := x.Get(1); a != 0 || b != 0 || e != want || x.Drop(1) != want {
			t.Error(a, b, e)
		}
		if id, ok := x.Pick(1<<64 - 1); id != 0 || ok || x.Next() != api.Never || x.Len() != 0 || len(x.IDs()) != 0 {
			t.Error(id, ok)
		}
		if x != nil && (x.Set(1, 2, 3) != api.OK || x.Len() != 1 || x.Next() != 2) {
			t.Error("Set of an empty table")
		}
	}
}

func TestNever(t *testing.T) {
	x := New()
	x.Set(1, api.Never, 0)
	x.Set(2, 1<<64-1, 0)
	if id, ok := x.Pick(1<<64 - 1); id != 0 || ok || x.Next() != api.Never {
		t.Error(id, ok, x.Next())
	}
	x.Drop(1)
	if x.Next() != api.Never {
		t.Error("a tick above Never is told")
	}
	// a deadline may be never, and above: it is held against others all the same
	x.Set(3, api.Never-1, 1<<64-1)
	x.Set(4, 7, api.Never)
	if id, ok := x.Pick(api.Never); id != 4 || !ok || x.Next() != 7 {
		t.Error(id, ok)
	}
	x.Drop(4)
	if id, ok := x.Pick(api.Never - 1); id != 3 || !ok || x.Next() != api.Never-1 {
		t.Error(id, ok)
	}
}

// TestAgainstAMap: 14.1 to 14.3.
func TestAgainstAMap(t *testing.T) {
	r := rand.New(rand.NewSource(18))
	ticks := []uint64{0, 1, 2, 3, 5, 8, api.Never - 1, api.Never, api.Never + 1, 1<<64 - 1}
	for range 60 {
		x, m := New(), map[int][2]uint64{}
		for range 100 {
			id := r.Intn(9) - 1
			if r.Intn(3) > 0 {
				m[id] = [2]uint64{ticks[r.Intn(len(ticks))], ticks[r.Intn(len(ticks))]}
				if e := x.Set(id, m[id][0], m[id][1]); e != api.OK {
					t.Fatal(e)
				}
			} else {
				want := api.OK
				if _, ok := m[id]; !ok {
					want = api.ErrNone
				}
				delete(m, id)
				if e := x.Drop(id); e != want {
					t.Fatal(e, want)
				}
			}
			ids := slices.Sorted(maps.Keys(m))
			if x.Len() != len(m) || !slices.Equal(x.IDs(), ids) {
				t.Fatal(x.IDs(), ids)
			}
			next := uint64(api.Never)
			for _, id := range ids {
				a, b, e := x.Get(id)
				if a != m[id][0] || b != m[id][1] || e != api.OK {
					t.Fatal(a, b, e)
				}
				next = min(next, a)
			}
			if x.Next() != next {
				t.Fatal(x.Next(), next)
			}
			for _, now := range ticks {
				best, has := 0, false
				for _, id := range ids {
					if m[id][0] <= now && m[id][0] < api.Never && (!has || m[id][1] < m[best][1]) {
						best, has = id, true
					}
				}
				if id, ok := x.Pick(now); id != best || ok != has {
					t.Fatal(id, ok, best, has)
				}
			}
		}
	}
}
