package promises

import (
	"slices"
	"testing"

	"floodgate/api"
	"floodgate/fair"
	"floodgate/hier"
	"floodgate/limit"
	"floodgate/spans"
	"floodgate/spec"
	"floodgate/top"
	"floodgate/trace"
	"floodgate/upper"
)

// sharers are the children of a class that Share.
func sharers(t *hier.Tree, parent int) []api.Class {
	var out []api.Class
	for _, id := range t.Children(parent) {
		if c, _ := t.Get(id); spec.Shares(c) {
			out = append(out, c)
		}
	}
	return out
}

// moment is what there is behind an operation.
type moment struct {
	active map[int]int
	// picked is how many bytes were picked of a class so far
	picked map[int]uint64
}

func moments(t *testing.T, x api.Script, tree *hier.Tree) []moment {
	var out []moment
	steps(t, x, func(i int, s *top.System, events []api.Event) {
		m := moment{map[int]int{}, map[int]uint64{}}
		for _, id := range tree.IDs() {
			if c, _ := s.Class(id); c.Active {
				m.active[id] = 1
			}
			m.picked[id] = trace.Begun(events, spans.Below(tree, id), 0, 1<<64-1)
		}
		out = append(out, m)
	})
	return out
}

// linearAll tells whether all are linear, and their least slope.
func linearAll(l []api.Class) (uint64, bool) {
	least := uint64(api.MaxSlope)
	for _, c := range l {
		least = min(least, c.Ls.M1)
	}
	return least, !slices.ContainsFunc(l, func(c api.Class) bool { return c.Ls.M1 != c.Ls.M2 })
}

// stretches goes through all times in which a class stays active: between the ends of two operations.
func stretches(l []moment, stays func(moment) bool, do func(a, b moment)) {
	for i, a := range l {
		for _, b := range l[i:] {
			if !stays(b) {
				break
			}
			do(a, b)
		}
	}
}

var onlyShares = []wish{{straight: true, ops: 60}, {straight: true, shared: true, ops: 60}, {ops: 60}}

// TestFairness: P5, 33.4.
func TestFairness(t *testing.T) {
	held := 0
	for _, w := range onlyShares {
		every(100, w, func(seed int64, x api.Script) {
			tree := treeOf(x)
			l := moments(t, x, tree)
			for _, parent := range append(tree.IDs(), 0) {
				children := sharers(tree, parent)
				least, ok := linearAll(children)
				for i, a := range children {
					for _, b := range children[i+1:] {
						if !ok {
							continue
						}
						both := func(m moment) bool { return m.active[a.ID]+m.active[b.ID] == 2 }
						stretches(l, both, func(m, n moment) {
							got := [2]fair.Got{{Slope: a.Ls.M1, Bytes: n.picked[a.ID] - m.picked[a.ID]}, {Slope: b.Ls.M1, Bytes: n.picked[b.ID] - m.picked[b.ID]}}
							if !fair.Fair(got[0], got[1], x.Config.Lmax, least) {
								t.Fatal(seed, a.ID, b.ID, got)
							}
							held++
						})
					}
				}
			}
		})
	}
	if held < 10000 {
		t.Error(held)
	}
}

// underLimit are the classes that are Capped, without a leaf at or below them that is Real.
func underLimit(t *hier.Tree) []api.Class {
	var out []api.Class
	for _, id := range t.IDs() {
		c, _ := t.Get(id)
		real := slices.ContainsFunc(spans.Below(t, id), func(leaf int) bool {
			x, _ := t.Get(leaf)
			return spec.Real(x)
		})
		if spec.Capped(c) && !real {
			out = append(out, c)
		}
	}
	return out
}

// TestTheLimit: P6, 34.2 and 34.3.
func TestTheLimit(t *testing.T) {
	held := 0
	for _, w := range []wish{{caps: true, ops: 80}, {caps: true, straight: true, ops: 80}, {caps: true, real: true, ops: 80}} {
		every(150, w, func(seed int64, x api.Script) {
			out, _ := top.Run(x)
			tree := treeOf(x)
			for _, c := range underLimit(tree) {
				held++
				below := spans.Below(tree, c.ID)
				if at, ok := limit.Broken(c.Ul, x.Config.Lmax, out.Events, below); ok || !limit.Kept(c.Ul, x.Config.Lmax, out.Events, below) {
					t.Fatal(seed, c, at)
				}
				for _, s := range spans.Of(out.Events, below) {
					bytes := uint64(0)
					for _, e := range out.Events[s.First:] {
						if e.In || !slices.Contains(below, e.Class) {
							continue
						}
						if bytes += uint64(e.Packet.Len); bytes > upper.Most(c.Ul, e.At-s.From, x.Config.Lmax) {
							t.Fatal(seed, c, e)
						}
					}
				}
			}
		})
	}
	if held < 200 {
		t.Error(held)
	}
}
