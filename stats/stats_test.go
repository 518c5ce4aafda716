package stats

import (
	"math/rand"
	"slices"
	"testing"

	"floodgate/api"
)

func TestExample(t *testing.T) {
	s := New()
	s.Came(3, 5)
	s.Came(3, 7)
	if e := s.Went(3, 20, 100, true); e != api.OK || s.Row(3) != (Row{1, 100, 1, 15, 15}) || s.Waiting(3) != 1 {
		t.Error(e, s.Row(3))
	}
	if e := s.Went(3, 30, 10, false); e != api.OK || s.Row(3) != (Row{2, 110, 1, 38, 23}) || s.Waiting(3) != 0 {
		t.Error(e, s.Row(3))
	}
	if !slices.Equal(s.Classes(), []int{3}) {
		t.Error(s.Classes())
	}
}

func TestErrors(t *testing.T) {
	s := New()
	s.Came(1, 50)
	for i, c := range []struct {
		class int
		done  uint64
		bytes int
		want  api.Errno
	}{{2, 0, 0, api.ErrNone}, {1, 0, 0, api.ErrLen}, {1, 0, -1, api.ErrLen}, {1, 49, 1, api.ErrClock}, {1, 50, 1, api.OK}, {1, 50, 0, api.ErrNone}} {
		before := s.Total()
		if e := s.Went(c.class, c.done, c.bytes, true); e != c.want {
			t.Errorf("%d: %v", i, e)
		}
		if c.want != api.OK && s.Total() != before {
			t.Errorf("%d: what is refused counts", i)
		}
	}
	if s.Row(1) != (Row{1, 1, 1, 0, 0}) || !slices.Equal(s.Classes(), []int{1}) {
		t.Error(s.Row(1), s.Classes())
	}
}

func TestNilAndEmpty(t *testing.T) {
	var s *Stats
	if s.Came(1, 1) != api.ErrState || s.Went(1, 1, 1, true) != api.ErrState || s.Row(1) != (Row{}) || s.Waiting(1) != 0 || len(s.Classes()) != 0 || s.Total() != (Row{}) {
		t.Error("nil")
	}
	s = new(Stats)
	if s.Went(1, 1, 1, true) != api.ErrNone || s.Came(1, 1) != api.OK || s.Went(1, 1, 1, true) != api.OK {
		t.Error("empty")
	}
}

func TestModulo(t *testing.T) {
	s := New()
	for range 3 {
		s.Came(-1, 0)
		s.Went(-1, 1<<64-1, 1<<62, false)
	}
	if s.Row(-1) != (Row{3, 3 << 62 & (1<<64 - 1), 0, 1<<64 - 3, 1<<64 - 1}) || s.Total() != s.Row(-1) {
		t.Error(s.Row(-1))
	}
}

// TestAgainstLists: 27.1 to 27.3.
func TestAgainstLists(t *testing.T) {
	r := rand.New(rand.NewSource(29))
	for range 100 {
		s := New()
		came, rows := map[int][]uint64{}, map[int]Row{}
		var sent, began uint64
		for now := range uint64(200) {
			class := r.Intn(5) - 1
			if r.Intn(2) == 0 {
				came[class] = append(came[class], now)
				s.Came(class, now)
			} else {
				bytes, byReal := 1+r.Intn(9), r.Intn(2) == 0
				e := s.Went(class, now+3, bytes, byReal)
				if (e == api.OK) != (len(came[class]) > 0) {
					t.Fatal(e)
				}
				if e == api.OK {
					x := rows[class]
					wait := now + 3 - came[class][0]
					x.Packets, x.Bytes, x.Waited, x.Longest = x.Packets+1, x.Bytes+uint64(bytes), x.Waited+wait, max(x.Longest, wait)
					if byReal {
						x.Real++
					}
					sent, began = sent+now+3, began+came[class][0]
					rows[class], came[class] = x, came[class][1:]
				}
			}
			var total Row
			for id := -1; id < 4; id++ {
				x := rows[id]
				if s.Row(id) != x || s.Waiting(id) != len(came[id]) {
					t.Fatal(id, s.Row(id), x)
				}
				total = Row{total.Packets + x.Packets, total.Bytes + x.Bytes, total.Real + x.Real, total.Waited + x.Waited, max(total.Longest, x.Longest)}
			}
			if s.Total() != total || total.Waited != sent-began {
				t.Fatal(s.Total(), total)
			}
		}
	}
}
