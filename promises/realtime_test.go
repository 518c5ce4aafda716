package promises

import (
	"slices"
	"testing"

	"floodgate/api"
	"floodgate/hier"
	"floodgate/serve"
	"floodgate/spans"
	"floodgate/spec"
	"floodgate/top"
)

// treeOf is the tree of a script whose classes change in the first operation alone.
func treeOf(x api.Script) *hier.Tree {
	t := hier.New()
	for _, c := range x.Ops[0].Changes {
		t.Add(c.Class)
	}
	return t
}

// realLeaves are the leaves of a tree that are Real.
func realLeaves(t *hier.Tree) []api.Class {
	var out []api.Class
	for _, id := range t.Leaves() {
		if c, _ := t.Get(id); spec.Real(c) {
			out = append(out, c)
		}
	}
	return out
}

// steps does a script, and calls behind each operation.
func steps(t *testing.T, x api.Script, behind func(i int, s *top.System, events []api.Event)) []api.Event {
	t.Helper()
	s, err := top.New(x.Config)
	if err != api.OK {
		t.Fatal(err)
	}
	var events []api.Event
	for i, o := range x.Ops {
		_, more := s.Do(o)
		events = append(events, more...)
		behind(i, s, events)
	}
	return events
}

// loaded are scripts with real-time curves, others, and limits.
var loaded = []wish{{real: true, ops: 100}, {real: true, caps: true, ops: 100}, {real: true, shared: true, ops: 60}}

// TestTheGuarantee: P4, 32.3.
func TestTheGuarantee(t *testing.T) {
	leaves, waited := 0, 0
	for _, w := range loaded {
		every(120, w, func(seed int64, x api.Script) {
			l := realLeaves(treeOf(x))
			if r, _ := top.Run(x); r.Results[0].Err != api.OK {
				t.Fatal(seed, r.Results[0])
			}
			events := steps(t, x, func(i int, s *top.System, events []api.Event) {
				for _, c := range l {
					if !serve.Kept(x.Config, c.Rt, events, c.ID, s.Clock()) {
						t.Fatalf("%d, operation %d: leaf %d is not served", seed, i, c.ID)
					}
					if spans.Backlogged(events, []int{c.ID}) {
						waited++
					}
				}
			})
			for _, c := range l {
				leaves++
				if at, ok := serve.Broken(x.Config, c.Rt, events, c.ID); ok {
					t.Fatal(seed, at, c)
				}
			}
		})
	}
	if leaves < 300 || waited < 3000 {
		t.Error(leaves, waited)
	}
}

// TestSpansAreQueues: 31.4.
func TestSpansAreQueues(t *testing.T) {
	every(60, wish{real: true, caps: true, ops: 60}, func(seed int64, x api.Script) {
		tree := treeOf(x)
		steps(t, x, func(i int, s *top.System, events []api.Event) {
			for _, id := range append(tree.IDs(), 0) {
				below := spans.Below(tree, id)
				has := slices.ContainsFunc(below, func(leaf int) bool { return len(s.Packets(leaf)) > 0 })
				if spans.Backlogged(events, below) != has {
					t.Fatal(seed, i, id)
				}
			}
		})
	})
}
