package top

import (
	"slices"
	"testing"

	"floodgate/api"
	"floodgate/core"
	"floodgate/stats"
)

func linear(m uint64) api.Curve { return api.Curve{M1: m, M2: m} }

func leaf(id, parent int) api.Class {
	return api.Class{ID: id, Parent: parent, Leaf: true, Ls: linear(65536), Pkts: 3, Bytes: 300}
}

func adds(l ...api.Class) api.Op {
	o := api.Op{Kind: api.OpChange}
	for _, c := range l {
		o.Changes = append(o.Changes, api.Change{Kind: api.ChAdd, Class: c})
	}
	return o
}

// to sends packets whose first number is a class's to it.
func to(ids ...int) api.Op {
	o := api.Op{Kind: api.OpRules}
	for _, id := range ids {
		o.Rules = append(o.Rules, api.Rule{Mask: api.Header{0xffff}, Want: api.Header{uint16(id)}, Class: id})
	}
	return o
}

func pkt(id uint64, class, n int) api.Op {
	return api.Op{Kind: api.OpPacket, Packet: api.Packet{ID: id, Len: n, Head: api.Header{uint16(class), 8}}}
}

func ticks(n uint64) api.Op { return api.Op{Kind: api.OpAdvance, Ticks: n} }

func in(op int, at uint64, o api.Op) api.Event {
	return api.Event{Op: op, In: true, At: at, Class: int(o.Packet.Head[0]), Packet: o.Packet}
}

func out(op int, at, done uint64, o api.Op) api.Event {
	return api.Event{Op: op, At: at, Done: done, Class: int(o.Packet.Head[0]), Packet: o.Packet}
}

func begin(t *testing.T, c api.Config, ops ...api.Op) *System {
	t.Helper()
	s, err := New(c)
	if err != api.OK {
		t.Fatal(err)
	}
	for _, o := range ops {
		if r, l := s.Do(o); r != (api.Result{}) || len(l) != 0 {
			t.Fatal(o, r, l)
		}
	}
	return s
}

var plain = api.Config{T: 1, Lmax: 100}

func TestExample(t *testing.T) {
	a, b := pkt(1, 1, 100), pkt(2, 1, 100)
	got, err := Run(api.Script{Config: plain, Ops: []api.Op{adds(leaf(1, 0)), {Kind: api.OpRules, Rules: []api.Rule{{Class: 1}}}, a, b, ticks(150)}})
	want := []api.Event{in(2, 0, a), out(2, 0, 100, a), in(3, 0, b), out(4, 100, 200, b)}
	if err != api.OK || !slices.Equal(got.Events, want) || !slices.Equal(got.Results, []api.Result{{}, {}, {Class: 1}, {Class: 1}, {}}) {
		t.Error(got, err)
	}
}

// TestTheWhole: the examples of the whole.
func TestTheWhole(t *testing.T) {
	double := leaf(2, 0)
	double.Ls = linear(2 * 65536)
	ops := []api.Op{adds(leaf(1, 0), double, leaf(3, 0)), to(1, 2, 3), pkt(0, 3, 1)}
	for range 3 {
		ops = append(ops, pkt(1, 1, 100), pkt(2, 2, 100))
	}
	got, _ := Run(api.Script{Config: plain, Ops: append(ops, ticks(1000))})
	var picks []int
	for _, e := range got.Events {
		if !e.In {
			picks = append(picks, e.Class)
		}
	}
	if !slices.Equal(picks, []int{3, 1, 2, 2, 1, 2, 1}) {
		t.Error(picks)
	}
	slow := leaf(1, 0)
	slow.Rt, slow.Ls = linear(32768), api.Curve{}
	a, b := pkt(1, 1, 100), pkt(2, 1, 100)
	got, _ = Run(api.Script{Config: plain, Ops: []api.Op{adds(slow), to(1), ticks(5), a, b, ticks(1000)}})
	x, y := out(3, 5, 105, a), out(5, 205, 305, b)
	x.Real, y.Real = true, true
	if !slices.Equal(got.Events, []api.Event{in(3, 5, a), x, in(4, 5, b), y}) {
		t.Error(got.Events)
	}
	capped := leaf(1, 0)
	capped.Ul = linear(32768)
	got, _ = Run(api.Script{Config: plain, Ops: []api.Op{adds(capped), to(1), a, b, ticks(199), ticks(1)}})
	if !slices.Equal(got.Events, []api.Event{in(2, 0, a), out(2, 0, 100, a), in(3, 0, b), out(5, 200, 300, b)}) {
		t.Error(got.Events)
	}
}

func TestRefused(t *testing.T) {
	s := begin(t, plain, adds(leaf(1, 0), api.Class{ID: 5, Ls: linear(1)}), to(1, 5, 9))
	steep := leaf(2, 0)
	steep.Rt = linear(65537)
	reals := leaf(3, 0)
	reals.Rt = linear(5)
	s.Do(pkt(1, 1, 50))
	hold := func(o api.Op, want api.Result) {
		t.Helper()
		before := s.ops
		if r, l := s.Do(o); r != want || len(l) != 0 || s.ops != before+1 {
			t.Error(o, r, l)
		}
	}
	hold(adds(steep), api.Result{Err: api.ErrAdmit})
	hold(adds(leaf(4, 0), leaf(4, 0)), api.Result{Err: api.ErrSame, Place: 1})
	hold(adds(reals), api.Result{Err: api.ErrBusy}) // the link sends
	hold(api.Op{Kind: api.OpRules, Rules: []api.Rule{{}}}, api.Result{Err: api.ErrArg})
	hold(api.Op{Kind: api.OpRules, Rules: make([]api.Rule, 33)}, api.Result{Err: api.ErrLong})
	hold(pkt(1, 2, 50), api.Result{Err: api.ErrMatch})
	hold(pkt(1, 9, 50), api.Result{Err: api.ErrClass, Class: 9})
	hold(pkt(1, 5, 50), api.Result{Err: api.ErrLeaf, Class: 5})
	hold(pkt(1, 1, 101), api.Result{Err: api.ErrLen, Class: 1})
	hold(pkt(1, 1, 0), api.Result{Err: api.ErrLen, Class: 1})
	hold(ticks(api.MaxClock+1), api.Result{Err: api.ErrClock})
	hold(ticks(1<<64-1), api.Result{Err: api.ErrClock})
	for _, kind := range []int{0, -1, 5, 1 << 40} {
		hold(api.Op{Kind: kind, Ticks: 5}, api.Result{Err: api.ErrArg})
	}
	for range 3 {
		s.Do(pkt(1, 1, 50))
	}
	hold(pkt(1, 1, 50), api.Result{Err: api.ErrDrop, Class: 1})
	if x, _ := s.Class(1); x.Counts.Drops != 1 || s.Accepted() != 200 || s.Clock() != 0 || len(s.Rules()) != 3 {
		t.Error(x.Counts, s.Accepted())
	}
	s.Do(ticks(49))
	hold(adds(reals), api.Result{Err: api.ErrBusy})
	s.Do(ticks(151))
	hold(ticks(api.MaxClock-199), api.Result{Err: api.ErrClock})
	hold(adds(reals), api.Result{})
	hold(ticks(api.MaxClock-200), api.Result{})
	hold(ticks(1), api.Result{Err: api.ErrClock})
	hold(ticks(0), api.Result{})
	if s.Clock() != api.MaxClock {
		t.Error(s.Clock())
	}
}

func TestWhatIsTold(t *testing.T) {
	s := begin(t, api.Config{T: 2, Lmax: 100}, adds(leaf(1, 0), leaf(7, 0)), to(1, 7), ticks(5))
	if s.Clock() != 5 || s.Until() != 0 || s.Next() != api.Never || s.Config() != (api.Config{T: 2, Lmax: 100}) || !slices.Equal(s.Classes(), []int{1, 7}) || !slices.Equal(s.Rules(), to(1, 7).Rules) {
		t.Error("a system at rest")
	}
	s.Do(pkt(1, 1, 50))
	s.Do(pkt(2, 1, 40))
	s.Do(pkt(3, 7, 10))
	if a, b := s.Backlog(); a != 2 || b != 50 || s.Until() != 105 || s.Next() != 105 || s.Accepted() != 100 || len(s.Packets(1)) != 1 || s.Packets(7)[0].ID != 3 || len(s.Packets(3)) != 0 {
		t.Error(a, b, s.Until(), s.Next())
	}
	s.Do(ticks(100))
	if s.Next() != 185 || s.Row(1) != (stats.Row{Packets: 2, Bytes: 90, Waited: 280, Longest: 180}) || s.Row(7) != (stats.Row{}) {
		t.Error(s.Next(), s.Row(1), s.Row(7))
	}
	s.Do(ticks(100))
	if s.Row(7) != (stats.Row{Packets: 1, Bytes: 10, Waited: 200, Longest: 200}) || s.Next() != api.Never {
		t.Error(s.Row(7))
	}
	if x, e := s.Class(1); e != api.OK || x.Total != 90 {
		t.Error(x, e)
	}
	if x, e := s.Class(9); e != api.ErrNone || x != (core.Info{}) {
		t.Error(x, e)
	}
	// the statistics of a number go on, when a class goes and another one comes
	row := s.Row(1)
	s.Do(api.Op{Kind: api.OpChange, Changes: []api.Change{{Kind: api.ChDel, Class: api.Class{ID: 1}}}})
	if s.Row(1) != row {
		t.Error(s.Row(1))
	}
	s.Do(adds(leaf(1, 0)))
	s.Do(pkt(1, 1, 5))
	if x, _ := s.Class(1); s.Row(1).Packets != row.Packets+1 || x.Total != 5 {
		t.Error(s.Row(1))
	}
}

func TestNewAndRun(t *testing.T) {
	for _, c := range []api.Config{{}, {T: 1}, {T: 1, Lmax: api.MaxLen + 1}, {T: api.MaxT + 1, Lmax: 1}} {
		if s, e := New(c); s != nil || e != api.ErrArg {
			t.Error(c, e)
		}
		if o, e := Run(api.Script{Config: c, Ops: make([]api.Op, api.MaxOps+1)}); len(o.Results)+len(o.Events) != 0 || e != api.ErrArg {
			t.Error(c, e)
		}
	}
	if o, e := Run(api.Script{Config: plain, Ops: make([]api.Op, api.MaxOps+1)}); len(o.Results)+len(o.Events) != 0 || e != api.ErrLong {
		t.Error(e)
	}
	if o, e := Run(api.Script{Config: plain, Ops: make([]api.Op, api.MaxOps)}); len(o.Results) != api.MaxOps || e != api.OK || o.Results[5].Err != api.ErrArg {
		t.Error(e)
	}
}

func TestNilAndEmpty(t *testing.T) {
	var s *System
	r, l := s.Do(ticks(5))
	x, e := s.Class(1)
	a, b := s.Backlog()
	if r != (api.Result{Err: api.ErrState}) || len(l) != 0 || x != (core.Info{}) || e != api.ErrState || a != 0 || b != 0 || s.Clock() != 0 || s.Until() != 0 || s.Next() != api.Never {
		t.Error("nil")
	}
	if len(s.Packets(1)) != 0 || len(s.Classes()) != 0 || len(s.Rules()) != 0 || s.Accepted() != 0 || s.Config() != (api.Config{}) || s.Row(1) != (stats.Row{}) {
		t.Error("nil")
	}
	s = new(System)
	for _, o := range []api.Op{adds(leaf(1, 0)), to(1), pkt(1, 1, 5), ticks(5), {}} {
		s.Do(o)
	}
}

// TestHandedIn: what is handed in is not kept, and what is told is not what is kept.
func TestHandedIn(t *testing.T) {
	rules, change := to(1), adds(leaf(1, 0))
	s := begin(t, plain, change, rules)
	rules.Rules[0].Class, change.Changes[0].Class.Pkts = 9, 1
	s.Rules()[0].Class = 8
	if s.Rules()[0].Class != 1 {
		t.Error(s.Rules())
	}
	if x, _ := s.Class(1); x.Class.Pkts != 3 {
		t.Error(x.Class)
	}
	s.Do(pkt(1, 1, 5))
	s.Do(pkt(2, 1, 5))
	s.Packets(1)[0].ID = 77
	if s.Packets(1)[0].ID != 2 {
		t.Error(s.Packets(1))
	}
}
