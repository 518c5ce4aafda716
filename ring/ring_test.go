package ring

import (
	"math/rand"
	"testing"

	"floodgate/api"
)

func TestRooms(t *testing.T) {
	for _, room := range []int{-1 << 63, -1, 0, api.MaxPkts + 1, 1 << 40} {
		if r, e := New[int](room); r != nil || e != api.ErrArg {
			t.Errorf("New(%d): %v, %v", room, r, e)
		}
	}
	for _, room := range []int{1, 2, api.MaxPkts} {
		r, e := New[string](room)
		if e != api.OK || r.Len() != 0 || r.Room() != room {
			t.Fatalf("New(%d): %v", room, e)
		}
		for range room {
			if e := r.Push("x"); e != api.OK {
				t.Fatal(e)
			}
		}
		if e := r.Push("y"); e != api.ErrFull || r.Len() != room || r.Room() != 0 {
			t.Fatal(e)
		}
	}
}

func TestNilAndEmpty(t *testing.T) {
	var r *Ring[int]
	if r.Push(1) != api.ErrState || r.Len() != 0 || r.Room() != 0 {
		t.Error("nil")
	}
	if x, e := r.Pop(); x != 0 || e != api.ErrState {
		t.Error(x, e)
	}
	if x, e := r.At(0); x != 0 || e != api.ErrState {
		t.Error(x, e)
	}
	empty := new(Ring[int])
	if x, e := empty.Pop(); x != 0 || e != api.ErrNone || empty.Push(1) != api.ErrFull {
		t.Error(x, e)
	}
}

// TestInOrder: 10.1 to 10.3, against a list.
func TestInOrder(t *testing.T) {
	rnd := rand.New(rand.NewSource(15))
	for range 50 {
		room := 1 + rnd.Intn(6)
		r, _ := New[int](room)
		var l []int
		for step := 1; step < 200; step++ {
			if rnd.Intn(2) == 0 {
				want := api.OK
				if len(l) == room {
					want = api.ErrFull
				} else {
					l = append(l, step)
				}
				if e := r.Push(step); e != want {
					t.Fatal(e, want)
				}
			} else if x, e := r.Pop(); len(l) == 0 {
				if x != 0 || e != api.ErrNone {
					t.Fatal(x, e)
				}
			} else {
				if x != l[0] || e != api.OK {
					t.Fatal(x, e, l)
				}
				l = l[1:]
			}
			if r.Len() != len(l) || r.Room() != room-len(l) {
				t.Fatal(r.Len(), r.Room(), l)
			}
			for i := -1; i <= room; i++ {
				x, e := r.At(i)
				if i < 0 || i >= len(l) {
					if x != 0 || e != api.ErrNone {
						t.Fatal(i, x, e)
					}
				} else if x != l[i] || e != api.OK {
					t.Fatal(i, x, e, l)
				}
			}
		}
	}
}
