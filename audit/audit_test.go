package audit

import (
	"slices"
	"testing"

	"floodgate/api"
)

var link = api.Config{T: 1, Lmax: 100}

func in(op int, at uint64, class int, p api.Packet) api.Event {
	return api.Event{Op: op, In: true, At: at, Class: class, Packet: p}
}

func out(op int, at uint64, class int, p api.Packet) api.Event {
	return api.Event{Op: op, At: at, Done: at + uint64(p.Len), Class: class, Packet: p}
}

var (
	a = api.Packet{ID: 1, Len: 100, Head: api.Header{1, 2}}
	b = api.Packet{ID: 2, Len: 10}
)

func good() []api.Event {
	return []api.Event{in(0, 5, 3, a), out(0, 5, 3, a), in(1, 6, 3, b), in(1, 6, 4, a), in(2, 6, 3, a), out(3, 105, 3, b), out(3, 115, 4, a), out(3, 215, 3, a)}
}

func TestExample(t *testing.T) {
	l := []api.Event{in(0, 5, 3, a), out(0, 5, 3, a)}
	if f := Check(link, l); f != (Found{}) {
		t.Error(f)
	}
	l[1].Done = 104
	if f := Check(link, l); f != (Found{1, api.ErrOver}) {
		t.Error(f)
	}
	if f := Check(link, good()); f != (Found{}) {
		t.Error(f)
	}
	if f := Check(link, nil); f != (Found{}) {
		t.Error(f)
	}
}

func TestLinks(t *testing.T) {
	for _, x := range []api.Config{{}, {T: 1}, {Lmax: 1}, {T: api.MaxT + 1, Lmax: 1}, {T: 1, Lmax: api.MaxLen + 1}, {T: -1, Lmax: 5}} {
		if f := Check(x, nil); f != (Found{0, api.ErrState}) {
			t.Error(x, f)
		}
		if f := Check(x, good()); f != (Found{0, api.ErrState}) {
			t.Error(x, f)
		}
	}
	x := api.Config{T: api.MaxT, Lmax: api.MaxLen}
	if f := Check(api.Config{T: 1, Lmax: 1}, nil); f != (Found{}) {
		t.Error(f)
	}
	p := api.Packet{Len: api.MaxLen}
	e := out(0, api.MaxClock, 1, p)
	e.Done = api.MaxClock + api.MaxLen*api.MaxT
	if f := Check(x, []api.Event{in(0, 0, 1, p), e}); f != (Found{}) {
		t.Error(f)
	}
}

func TestEachFault(t *testing.T) {
	for i, c := range []struct {
		at     int
		err    api.Errno
		change func(*api.Event)
	}{
		{0, api.ErrArg, func(e *api.Event) { e.Op = -1 }}, {4, api.ErrArg, func(e *api.Event) { e.Op = 0 }}, {2, api.ErrArg, func(e *api.Event) { e.Class = 0 }}, {2, api.ErrArg, func(e *api.Event) { e.Class = -3 }},
		{5, api.ErrClock, func(e *api.Event) { e.At = 5 }}, {7, api.ErrClock, func(e *api.Event) { e.At = api.MaxClock + 1 }}, {0, api.ErrClock, func(e *api.Event) { e.At = 1 << 63 }},
		{2, api.ErrLen, func(e *api.Event) { e.Packet.Len = 0 }}, {2, api.ErrLen, func(e *api.Event) { e.Packet.Len = 101 }}, {5, api.ErrLen, func(e *api.Event) { e.Packet.Len = -1 }},
		{0, api.ErrForm, func(e *api.Event) { e.Done = 1 }}, {3, api.ErrForm, func(e *api.Event) { e.Real = true }},
		{1, api.ErrNone, func(e *api.Event) { e.Class = 4 }}, {7, api.ErrNone, func(e *api.Event) { e.Class = 4 }},
		{1, api.ErrSame, func(e *api.Event) { e.Packet.ID = 9 }}, {1, api.ErrSame, func(e *api.Event) { e.Packet.Head[3] = 9 }}, {5, api.ErrSame, func(e *api.Event) { e.Packet = a }}, {5, api.ErrSame, func(e *api.Event) { e.Packet.Len = 11 }},
		{5, api.ErrBusy, func(e *api.Event) { e.At = 104 }}, {5, api.ErrOver, func(e *api.Event) { e.Done = 116 }}, {5, api.ErrOver, func(e *api.Event) { e.At = 106 }}, {1, api.ErrOver, func(e *api.Event) { e.Done = 0 }},
		// of several faults the first one of the list is told
		{5, api.ErrArg, func(e *api.Event) { *e = api.Event{Op: 0, At: 1 << 63} }}, {5, api.ErrClock, func(e *api.Event) { e.At, e.Packet.Len = 5, 0 }}, {3, api.ErrLen, func(e *api.Event) { e.Packet.Len, e.Real = 0, true }}, {5, api.ErrNone, func(e *api.Event) { e.Class, e.At = 9, 104 }},
	} {
		l := good()
		c.change(&l[c.at])
		if f := Check(link, l); f != (Found{c.at, c.err}) {
			t.Errorf("%d: %v", i, f)
		}
	}
	// a pick by real-time is right
	l := good()
	l[5].Real = true
	if f := Check(link, l); f != (Found{}) {
		t.Error(f)
	}
}

func TestWaiting(t *testing.T) {
	l := good()
	for n, want := range map[int][]api.Packet{0: nil, 1: {a}, 2: nil, 3: {b}, 5: {b, a}, 6: {a}, 8: nil} {
		if w := Waiting(l[:n], 3); !slices.Equal(w, want) {
			t.Error(n, w)
		}
	}
	if w := Waiting(l[:5], 4); !slices.Equal(w, []api.Packet{a}) {
		t.Error(w)
	}
	// a pick takes the first one away, whatever its packet is, and none, if there is none
	if w := Waiting([]api.Event{out(0, 0, 3, a), in(0, 0, 3, a), in(0, 0, 3, b), out(0, 0, 3, b)}, 3); !slices.Equal(w, []api.Packet{b}) {
		t.Error(w)
	}
	if len(Waiting(l, 9)) != 0 || len(Waiting(nil, 3)) != 0 {
		t.Error("packets of none")
	}
}
