package promises

import (
	"math/rand"
	"slices"
	"testing"

	"floodgate/api"
	"floodgate/match"
	"floodgate/stats"
	"floodgate/top"
)

// system is the whole as a model.
type system struct {
	*model
	rules        []api.Rule
	clock, until uint64
	ops          int
	events       []api.Event
	rows         map[int]stats.Row
	came         map[int][]uint64
}

func newSystem(c api.Config) *system {
	return &system{model: newModel(c), rows: map[int]stats.Row{}, came: map[int][]uint64{}}
}

func (s *system) pump(now uint64) {
	if now < s.until {
		return
	}
	p, ok := s.take(now)
	if !ok {
		return
	}
	s.until = now + uint64(p.Packet.Len*s.link.T)
	s.events = append(s.events, api.Event{Op: s.ops, Real: p.Real, At: now, Done: s.until, Class: p.Class, Packet: p.Packet})
	row, wait := s.rows[p.Class], s.until-s.came[p.Class][0]
	s.came[p.Class] = s.came[p.Class][1:]
	row.Packets, row.Bytes, row.Waited, row.Longest = row.Packets+1, row.Bytes+uint64(p.Packet.Len), row.Waited+wait, max(row.Longest, wait)
	if p.Real {
		row.Real++
	}
	s.rows[p.Class] = row
}

func (s *system) do(o api.Op) api.Result {
	defer func() { s.ops++ }()
	switch o.Kind {
	case api.OpChange:
		place, err := s.change(s.clock >= s.until, o.Changes)
		return api.Result{Err: err, Place: place}
	case api.OpRules:
		_, err := match.New(o.Rules)
		if err == api.OK {
			s.rules = o.Rules
		}
		return api.Result{Err: err}
	case api.OpPacket:
		for _, r := range s.rules {
			if !match.Matches(r, o.Packet.Head) {
				continue
			}
			err := s.put(s.clock, r.Class, o.Packet)
			if err == api.OK {
				s.came[r.Class] = append(s.came[r.Class], s.clock)
				s.events = append(s.events, api.Event{Op: s.ops, In: true, At: s.clock, Class: r.Class, Packet: o.Packet})
				s.pump(s.clock)
			}
			return api.Result{Err: err, Class: r.Class}
		}
		return api.Result{Err: api.ErrMatch}
	case api.OpAdvance:
		return s.goOn(o.Ticks)
	}
	return api.Result{Err: api.ErrArg}
}

func (s *system) goOn(ticks uint64) api.Result {
	if ticks > api.MaxClock-s.clock {
		return api.Result{Err: api.ErrClock}
	}
	end := s.clock + ticks
	for s.clock < end {
		s.clock++
		// only far ahead of all that happens ticks are passed over
		if next := max(s.until, s.due()); ticks > 1000 && next > s.clock {
			s.clock = min(next, end)
		}
		s.pump(s.clock)
	}
	return api.Result{}
}

func held(t *testing.T, s *top.System, m *system) {
	t.Helper()
	if s.Clock() != m.clock || s.Until() != m.until || s.Accepted() != m.accepted || !slices.Equal(s.Rules(), m.rules) || !slices.Equal(s.Classes(), m.tree.IDs()) {
		t.Fatal(s.Clock(), m.clock, s.Until(), m.until, s.Accepted(), m.accepted)
	}
	next := max(m.clock, m.until, m.due())
	if s.Next() != min(next, api.Never) || next <= m.clock {
		t.Fatal(s.Next(), next, m.clock)
	}
	for _, id := range m.tree.IDs() {
		got, err := s.Class(id)
		if want := m.info(id); got != want || err != api.OK {
			t.Fatalf("class %d has\n%+v instead of\n%+v, %v", id, got, want, err)
		}
		if !slices.Equal(s.Packets(id), m.classes[id].q) || s.Row(id) != m.rows[id] {
			t.Fatal(id, s.Packets(id), s.Row(id), m.rows[id])
		}
	}
}

// TestSystemIsTheModel: P1, and 28.1 to 28.4.
func TestSystemIsTheModel(t *testing.T) {
	errs := map[api.Errno]int{}
	for _, w := range []wish{{real: true, caps: true, wild: true, ops: 80}, {real: true, ops: 80}, {caps: true, wild: true, ops: 80}, {shared: true, straight: true, wild: true, ops: 80}} {
		every(100, w, func(seed int64, x api.Script) {
			s, err := top.New(x.Config)
			if err != api.OK {
				t.Fatal(err)
			}
			m := newSystem(x.Config)
			var results []api.Result
			for i, o := range x.Ops {
				n := len(m.events)
				got, events := s.Do(o)
				if want := m.do(o); got != want || !slices.Equal(events, m.events[n:]) {
					t.Fatalf("%d, operation %d: %v, %v instead of %v, %v", seed, i, got, events, want, m.events[n:])
				}
				errs[got.Err]++
				results = append(results, got)
				held(t, s, m)
			}
			out, err := top.Run(x)
			if err != api.OK || !slices.Equal(out.Results, results) || !slices.Equal(out.Events, m.events) {
				t.Fatal(seed, err)
			}
		})
	}
	for _, e := range []api.Errno{api.OK, api.ErrArg, api.ErrNone, api.ErrSame, api.ErrClass, api.ErrBusy, api.ErrLen, api.ErrClock, api.ErrLeaf, api.ErrDrop, api.ErrMatch} {
		if errs[e] == 0 {
			t.Error("no script has", e, errs)
		}
	}
}

var all = wish{real: true, caps: true, wild: true, ops: 60}

// split goes on by the same ticks in several steps.
func split(r *rand.Rand, x api.Script) api.Script {
	out := api.Script{Config: x.Config}
	for _, o := range x.Ops {
		for o.Kind == api.OpAdvance && o.Ticks > 1 && o.Ticks < 1<<30 && r.Intn(3) > 0 {
			part := uint64(r.Int63n(int64(o.Ticks)))
			out.Ops = append(out.Ops, api.Op{Kind: api.OpAdvance, Ticks: part})
			o.Ticks -= part
		}
		out.Ops = append(out.Ops, o)
	}
	return out
}

// withoutOps are events without their operations' numbers.
func withoutOps(l []api.Event) []api.Event {
	l = slices.Clone(l)
	for i := range l {
		l[i].Op = 0
	}
	return l
}

// TestStepsAreOne: 28.5.
func TestStepsAreOne(t *testing.T) {
	every(150, all, func(seed int64, x api.Script) {
		y := split(rand.New(rand.NewSource(seed)), x)
		a, _ := top.Run(x)
		b, err := top.Run(y)
		if err == api.OK && !slices.Equal(withoutOps(a.Events), withoutOps(b.Events)) {
			t.Fatal(seed)
		}
	})
}

// TestRefusedChangesNothing: P3, and 28.6: without the operations that are refused all else is the same.
func TestRefusedChangesNothing(t *testing.T) {
	every(150, all, func(seed int64, x api.Script) {
		a, _ := top.Run(x)
		y := api.Script{Config: x.Config}
		var want []api.Result
		for i, o := range x.Ops {
			if a.Results[i].Err == api.OK {
				y.Ops = append(y.Ops, o)
				want = append(want, a.Results[i])
			}
		}
		b, _ := top.Run(y)
		if !slices.Equal(withoutOps(a.Events), withoutOps(b.Events)) || !slices.Equal(b.Results, want) {
			t.Fatal(seed)
		}
	})
}

// TestPackets: P2: what is picked of a leaf is what came to it, in order, at most once, and unchanged.
func TestPackets(t *testing.T) {
	every(150, all, func(seed int64, x api.Script) {
		out, _ := top.Run(x)
		came := map[int][]api.Packet{}
		for _, e := range out.Events {
			if e.In {
				came[e.Class] = append(came[e.Class], e.Packet)
				continue
			}
			if len(came[e.Class]) == 0 || came[e.Class][0] != e.Packet {
				t.Fatal(seed, e)
			}
			came[e.Class] = came[e.Class][1:]
		}
	})
}
