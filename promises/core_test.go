package promises

import (
	"math/rand"
	"slices"
	"testing"

	"floodgate/api"
	"floodgate/core"
)

// alike holds a scheduler against the model.
func alike(t *testing.T, s *core.Sched, m *model) {
	t.Helper()
	if s.Due() != m.due() || s.Accepted() != m.accepted || !slices.Equal(s.Tree().IDs(), m.tree.IDs()) {
		t.Fatalf("due %d instead of %d, accepted %d, %d", s.Due(), m.due(), s.Accepted(), m.accepted)
	}
	packets, bytes := 0, 0
	for _, id := range m.tree.IDs() {
		got, err := s.Get(id)
		if want := m.info(id); got != want || err != api.OK {
			t.Fatalf("class %d has\n%+v instead of\n%+v, %v", id, got, want, err)
		}
		if !slices.Equal(s.Packets(id), m.classes[id].q) {
			t.Fatal(id, s.Packets(id), m.classes[id].q)
		}
		packets, bytes = packets+len(m.classes[id].q), bytes+bytesOf(m.classes[id].q)
	}
	if p, b := s.Backlog(); p != packets || b != bytes {
		t.Fatal(p, b, packets, bytes)
	}
}

// TestSchedulerIsTheModel: 24.1 to 24.7.
func TestSchedulerIsTheModel(t *testing.T) {
	picks := map[bool]int{}
	for i, w := range []wish{{real: true, caps: true, wild: true, ops: 60}, {real: true, ops: 60}, {caps: true, wild: true, ops: 60}, {shared: true, ops: 60}, {straight: true, wild: true, ops: 60}} {
		every(120, w, func(seed int64, x api.Script) {
			r := rand.New(rand.NewSource(seed))
			s, err := core.New(x.Config)
			if err != api.OK || s.Config() != x.Config {
				t.Fatal(err)
			}
			m := newModel(x.Config)
			now := uint64(0)
			for _, o := range x.Ops {
				switch o.Kind {
				case api.OpChange:
					idle := r.Intn(4) > 0
					p, e := s.Change(idle, o.Changes)
					if q, f := m.change(idle, o.Changes); p != q || e != f {
						t.Fatal(i, seed, p, q, e, f)
					}
				case api.OpPacket:
					at := now
					if r.Intn(20) == 0 {
						at = []uint64{now - 1, now + 1, api.MaxClock + 1, 1<<64 - 1}[r.Intn(4)]
					}
					class := int(o.Packet.Head[0])
					if r.Intn(20) == 0 {
						class = r.Intn(12) - 1
					}
					e := s.Put(at, class, o.Packet)
					if f := m.put(at, class, o.Packet); e != f {
						t.Fatal(i, seed, e, f)
					}
				case api.OpAdvance:
					for range 1 + r.Intn(3) {
						due := s.Due()
						got, ok := s.Take(now)
						if want, has := m.take(now); got != want || ok != has || m.clock == now && ok != (due <= now) {
							t.Fatal(i, seed, got, want, ok, has)
						}
						if ok {
							picks[got.Real]++
						}
					}
					if o.Ticks < 1<<20 {
						now += o.Ticks
					} else {
						now = max(now, api.MaxClock-100)
					}
				}
				alike(t, s, m)
			}
		})
	}
	if picks[true] < 500 || picks[false] < 500 {
		t.Error(picks)
	}
}
