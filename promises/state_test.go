package promises

import (
	"slices"
	"testing"

	"floodgate/api"
	"floodgate/core"
	"floodgate/plan"
	"floodgate/state"
	"floodgate/top"
)

// TestTheStateIsAll: P3, 37.3: systems of one state, with unlike pasts, do the same from then on.
func TestTheStateIsAll(t *testing.T) {
	pairs := 0
	every(60, all, func(seed int64, x api.Script) {
		y := made(seed+1000, all)
		long, _ := top.New(x.Config)
		short, _ := top.New(x.Config)
		// one has refused what the other one never saw, and has done nothing in many steps
		for i, o := range x.Ops {
			a := state.Of(long)
			r, _ := long.Do(o)
			long.Do(api.Op{Kind: api.OpAdvance})
			long.Do(api.Op{Kind: 77})
			if r.Err == api.OK {
				short.Do(o)
			} else if !state.Still(a, state.Of(long)) {
				t.Fatal(seed, i, "what is refused changes something")
			}
			if !state.Still(state.Of(long), state.Of(short)) || r.Err == api.OK && i == 0 && !state.Same(state.Of(long), state.Of(short)) {
				t.Fatal(seed, i)
			}
		}
		for i, o := range y.Ops {
			a, b := state.Of(long), state.Of(short)
			if state.Same(a, b) {
				pairs++
			}
			r, events := long.Do(o)
			q, others := short.Do(o)
			if r != q || !slices.Equal(withoutOps(events), withoutOps(others)) {
				t.Fatal(seed, i)
			}
			if state.Same(a, b) && !state.Same(state.Of(long), state.Of(short)) || !state.Still(state.Of(long), state.Of(short)) {
				t.Fatal(seed, i, "the states part")
			}
		}
	})
	if pairs < 100 {
		t.Error(pairs)
	}
}

// TestRestIsRest: what is at rest has no pick to make.
func TestRestIsRest(t *testing.T) {
	every(40, all, func(seed int64, x api.Script) {
		steps(t, x, func(i int, s *top.System, events []api.Event) {
			packets, _ := s.Backlog()
			if state.AtRest(state.Of(s)) != (packets == 0 && s.Until() <= s.Clock()) {
				t.Fatal(seed, i)
			}
			if x := state.Of(s); len(x.Classes) != len(x.Queues) || slices.ContainsFunc(x.Classes, func(c core.Info) bool { return c.Class.ID < 1 }) {
				t.Fatal(seed, i)
			}
		})
	})
}

// TestNoPacketIsLate: P4, 38.3.
func TestNoPacketIsLate(t *testing.T) {
	held := 0
	for _, w := range loaded {
		every(100, w, func(seed int64, x api.Script) {
			x.Ops = append(x.Ops, api.Op{Kind: api.OpAdvance, Ticks: 1 << 40})
			out, _ := top.Run(x)
			for _, c := range realLeaves(treeOf(x)) {
				var latest []uint64
				for i, e := range out.Events {
					if e.Class != c.ID {
						continue
					}
					if e.In {
						tick, err := plan.Latest(x.Config, c.Rt, out.Events, c.ID, i)
						if err != api.OK {
							t.Fatal(seed, err)
						}
						latest = append(latest, tick)
						continue
					}
					if e.Done > latest[0] {
						t.Fatalf("%d: %v is sent later than at %d", seed, e, latest[0])
					}
					latest = latest[1:]
					held++
				}
			}
		})
	}
	if held < 3000 {
		t.Error(held)
	}
}
