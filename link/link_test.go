package link

import (
	"math/rand"
	"testing"

	"floodgate/api"
)

func TestExample(t *testing.T) {
	l, e := New(3)
	if e != api.OK || !l.Free(0) || l.Until() != 0 || l.Busy() != 0 {
		t.Fatal(e)
	}
	if v, e := l.Send(5, api.Packet{Len: 10}); v != 35 || e != api.OK {
		t.Error(v, e)
	}
	if l.Free(34) || !l.Free(35) || l.Until() != 35 || l.Busy() != 30 {
		t.Error(l.Until(), l.Busy())
	}
	if p, b := l.Sent(); p != 1 || b != 10 {
		t.Error(p, b)
	}
}

func TestErrors(t *testing.T) {
	for _, n := range []int{0, -1, api.MaxT + 1} {
		if l, e := New(n); l != nil || e != api.ErrArg {
			t.Error(n, e)
		}
	}
	l, _ := New(api.MaxT)
	l.Send(0, api.Packet{Len: 2})
	for i, c := range []struct {
		now  uint64
		n    int
		want api.Errno
	}{
		{api.MaxClock + 1, 0, api.ErrClock}, {1<<64 - 1, 5, api.ErrClock}, {7, 0, api.ErrLen}, {7, -1, api.ErrLen}, {7, api.MaxLen + 1, api.ErrLen}, {7, 1, api.ErrBusy}, {2*api.MaxT - 1, 1, api.ErrBusy},
	} {
		if v, e := l.Send(c.now, api.Packet{Len: c.n}); v != 0 || e != c.want {
			t.Errorf("%d: %d, %v", i, v, e)
		}
	}
	if p, b := l.Sent(); p != 1 || b != 2 || l.Busy() != 2*api.MaxT || l.Until() != 2*api.MaxT {
		t.Error("what is refused counts")
	}
	if v, e := l.Send(api.MaxClock, api.Packet{Len: api.MaxLen}); v != api.MaxClock+1<<30 || e != api.OK {
		t.Error(v, e)
	}
}

func TestNil(t *testing.T) {
	var l *Link
	v, e := l.Send(0, api.Packet{Len: 1})
	p, b := l.Sent()
	if v != 0 || e != api.ErrState || l.Free(0) || l.Until() != 0 || l.Busy() != 0 || p != 0 || b != 0 {
		t.Error("nil")
	}
}

// TestNeverOverlaps: 25.3.
func TestNeverOverlaps(t *testing.T) {
	r := rand.New(rand.NewSource(27))
	for range 100 {
		n := 1 + r.Intn(9)
		l, _ := New(n)
		var bytes, packets, until, now uint64
		for range 100 {
			p := api.Packet{Len: 1 + r.Intn(50)}
			free := now >= until
			if l.Free(now) != free {
				t.Fatal(now, until)
			}
			if v, e := l.Send(now, p); (e == api.OK) != free {
				t.Fatal(v, e)
			} else if free {
				until, bytes, packets = now+uint64(p.Len*n), bytes+uint64(p.Len), packets+1
			}
			if a, b := l.Sent(); a != packets || b != bytes || l.Until() != until || l.Busy() != bytes*uint64(n) || l.Busy() > l.Until() {
				t.Fatal(a, b, l.Until(), l.Busy())
			}
			now += uint64(r.Intn(200))
		}
	}
}
