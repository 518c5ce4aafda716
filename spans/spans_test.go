package spans

import (
	"math/rand"
	"slices"
	"testing"

	"floodgate/api"
	"floodgate/hier"
)

func in(class int, at uint64) api.Event  { return api.Event{In: true, Class: class, At: at} }
func out(class int, at uint64) api.Event { return api.Event{Class: class, At: at, Done: at + 9} }

func TestExample(t *testing.T) {
	l := []api.Event{in(1, 5), out(1, 5), in(1, 9), in(1, 9), out(1, 20)}
	want := []Span{{From: 5, To: 5, First: 0, Last: 1}, {From: 9, First: 2, Open: true}}
	if s := Of(l, []int{1}); !slices.Equal(s, want) || !Backlogged(l, []int{1}) || !slices.Equal(Since(l, []int{1}), []uint64{5, 9}) {
		t.Error(s)
	}
	if s := Of(l, []int{2}); len(s) != 0 || Backlogged(l, []int{2}) || len(Since(l, nil)) != 0 || len(Of(nil, []int{1})) != 0 {
		t.Error(s)
	}
}

func TestSeveralLeaves(t *testing.T) {
	l := []api.Event{out(1, 1), in(3, 2), in(1, 3), in(2, 4), out(1, 5), out(3, 6), out(2, 7), out(2, 8), in(2, 8)}
	want := []Span{{From: 3, To: 7, First: 2, Last: 6}, {From: 8, First: 8, Open: true}}
	if s := Of(l, []int{2, 1, 2}); !slices.Equal(s, want) {
		t.Error(s)
	}
	// a pick of none makes nothing less
	if s := Of([]api.Event{out(1, 1), out(1, 2), in(1, 3)}, []int{1}); !slices.Equal(s, []Span{{From: 3, First: 2, Open: true}}) {
		t.Error(s)
	}
}

func TestBelow(t *testing.T) {
	x := hier.New()
	ls := api.Curve{M1: 5, M2: 5}
	for _, c := range []api.Class{{ID: 1, Ls: ls}, {ID: 2, Parent: 1, Ls: ls}, {ID: 7, Parent: 2, Leaf: true, Ls: ls, Pkts: 1, Bytes: 1}, {ID: 3, Parent: 1, Leaf: true, Ls: ls, Pkts: 1, Bytes: 1}, {ID: 9, Leaf: true, Ls: ls, Pkts: 1, Bytes: 1}, {ID: 8, Ls: ls}} {
		if e := x.Add(c); e != api.OK {
			t.Fatal(e)
		}
	}
	for id, want := range map[int][]int{0: {3, 7, 9}, 1: {3, 7}, 2: {7}, 7: {7}, 9: {9}, 8: nil, 5: nil, -1: nil} {
		if l := Below(x, id); !slices.Equal(l, want) {
			t.Error(id, l)
		}
	}
	if len(Below(nil, 0)) != 0 || len(Below(nil, 1)) != 0 {
		t.Error("leaves of no tree")
	}
}

// TestAgainstCounting: 31.1 and 31.3.
func TestAgainstCounting(t *testing.T) {
	r := rand.New(rand.NewSource(33))
	for range 500 {
		var l []api.Event
		for i := range r.Intn(30) {
			l = append(l, api.Event{In: r.Intn(2) == 0, Class: r.Intn(3), At: uint64(i * r.Intn(3))})
		}
		leaves := []int{r.Intn(3), r.Intn(3)}
		spans := Of(l, leaves)
		packets := 0
		for i, e := range l {
			if slices.Contains(leaves, e.Class) {
				if e.In {
					packets++
				} else {
					packets = max(packets-1, 0)
				}
			}
			inside := slices.IndexFunc(spans, func(s Span) bool { return s.First <= i && (s.Open || s.Last > i) }) >= 0
			if inside != (packets > 0) || Backlogged(l[:i+1], leaves) != (packets > 0) {
				t.Fatal(l, i, spans)
			}
		}
		for i, s := range spans {
			ends := i == len(spans)-1
			if l[s.First].At != s.From || s.Open && (!ends || s.To != 0 || s.Last != 0) || !s.Open && (l[s.Last].At != s.To || s.Last <= s.First) || !ends && spans[i+1].First <= s.Last || s.Open != Backlogged(l, leaves) && ends {
				t.Fatal(l, spans)
			}
		}
	}
}
