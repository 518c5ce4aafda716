package state

import (
	"reflect"
	"testing"

	"floodgate/api"
	"floodgate/core"
	"floodgate/top"
)

func begin(t *testing.T) *top.System {
	s, err := top.New(api.Config{T: 2, Lmax: 100})
	if err != api.OK {
		t.Fatal(err)
	}
	l := api.Curve{M1: 65536, M2: 65536}
	s.Do(api.Op{Kind: api.OpChange, Changes: []api.Change{
		{Kind: api.ChAdd, Class: api.Class{ID: 5, Ls: l}}, {Kind: api.ChAdd, Class: api.Class{ID: 3, Parent: 5, Leaf: true, Ls: l, Rt: api.Curve{M1: 9, M2: 9}, Ul: l, Pkts: 2, Bytes: 120}},
	}})
	s.Do(api.Op{Kind: api.OpRules, Rules: []api.Rule{{Class: 3}}})
	return s
}

func put(s *top.System, n int) {
	s.Do(api.Op{Kind: api.OpPacket, Packet: api.Packet{ID: 7, Len: n}})
}

func TestOf(t *testing.T) {
	s := begin(t)
	s.Do(api.Op{Kind: api.OpAdvance, Ticks: 5})
	put(s, 100)
	put(s, 50)
	a := Of(s)
	three, _ := s.Class(3)
	five, _ := s.Class(5)
	want := State{Config: api.Config{T: 2, Lmax: 100}, Clock: 5, Until: 205, Accepted: 150, Rules: []api.Rule{{Class: 3}}, Classes: []core.Info{three, five}, Queues: [][]api.Packet{{{ID: 7, Len: 50}}, nil}}
	if !Same(a, want) || !Same(want, a) || !Still(a, want) || !Same(a, Of(s)) {
		t.Error(a)
	}
	if z := Of(nil); !reflect.DeepEqual(z, State{}) {
		t.Error(z)
	}
	// to go on by 0 ticks leaves the same state
	s.Do(api.Op{Kind: api.OpAdvance})
	if !Same(a, Of(s)) {
		t.Error(Of(s))
	}
	// a packet that has no room leaves one that is still the same
	put(s, 100)
	put(s, 101)
	if b := Of(s); Same(a, b) || !Still(a, b) || !Still(b, a) {
		t.Error(b)
	}
}

// TestEachField: what differs in any field is not the same, nor still.
func TestEachField(t *testing.T) {
	for i, change := range []func(*State){
		func(a *State) { a.Config.T++ }, func(a *State) { a.Config.Lmax++ }, func(a *State) { a.Clock++ }, func(a *State) { a.Until++ }, func(a *State) { a.Accepted++ },
		func(a *State) { a.Rules[0].Mask[3] = 1 }, func(a *State) { a.Rules = nil }, func(a *State) { a.Rules = append(a.Rules, a.Rules[0]) },
		func(a *State) { a.Classes = a.Classes[:1] }, func(a *State) { a.Classes[0].Class.Pkts++ }, func(a *State) { a.Classes[0].Active = !a.Classes[0].Active }, func(a *State) { a.Classes[1].Total++ },
		func(a *State) { a.Classes[0].Dues.Deadline++ }, func(a *State) { a.Classes[0].Share.Time++ }, func(a *State) { a.Classes[0].Limit.Run.Then.Y.Hi++ }, func(a *State) { a.Classes[1].Fit++ },
		func(a *State) { a.Classes[0].Counts.In++ }, func(a *State) { a.Classes[0].Counts.BytesOut++ }, func(a *State) { a.Queues[0][0].ID++ }, func(a *State) { a.Queues[0] = nil }, func(a *State) { a.Queues = a.Queues[:1] },
		func(a *State) { a.Queues[1] = []api.Packet{{}} },
	} {
		s := begin(t)
		put(s, 100)
		put(s, 50)
		a, b := Of(s), Of(s)
		change(&b)
		if Same(a, b) || Still(a, b) || Same(b, a) || Still(b, a) || !Same(a, Of(s)) {
			t.Error(i)
		}
	}
	a := State{Classes: make([]core.Info, 1)}
	b := State{Classes: make([]core.Info, 1), Rules: []api.Rule{}, Queues: [][]api.Packet{}}
	b.Classes[0].Counts.Drops, b.Classes[0].Counts.BytesDrops = 3, 4
	if Same(a, b) || !Still(a, b) {
		t.Error("counters of dropped packets")
	}
}

func TestAtRest(t *testing.T) {
	s := begin(t)
	if !AtRest(Of(s)) || !AtRest(State{}) {
		t.Error("a system at its beginning")
	}
	put(s, 100)
	if AtRest(Of(s)) {
		t.Error("the link sends")
	}
	put(s, 50)
	for _, want := range []bool{false, false, true} {
		s.Do(api.Op{Kind: api.OpAdvance, Ticks: 100})
		if AtRest(Of(s)) != want {
			t.Error(s.Clock())
		}
	}
	if AtRest(State{Queues: [][]api.Packet{nil, {{Len: 1}}}}) || AtRest(State{Until: 5, Clock: 4}) || !AtRest(State{Until: 5, Clock: 5, Queues: [][]api.Packet{nil}}) {
		t.Error("AtRest")
	}
}
