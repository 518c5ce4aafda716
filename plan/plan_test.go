package plan

import (
	"testing"

	"floodgate/api"
	"floodgate/hier"
)

var (
	one  = api.Curve{M1: 65536, M2: 65536}
	wire = api.Config{T: 1, Lmax: 100}
)

func in(class int, at uint64, n int) api.Event {
	return api.Event{In: true, Class: class, At: at, Packet: api.Packet{Len: n}}
}
func out(class int, at uint64) api.Event { return api.Event{Class: class, At: at, Done: at + 9} }

var badLinks = []api.Config{{}, {T: 1}, {Lmax: 1}, {T: api.MaxT + 1, Lmax: 1}, {T: 1, Lmax: api.MaxLen + 1}, {T: -1, Lmax: -1}}

func TestDelay(t *testing.T) {
	for i, c := range []struct {
		x     api.Config
		c     api.Curve
		bytes uint64
		want  uint64
	}{
		{api.Config{T: 1, Lmax: 1}, one, 50, 51}, {api.Config{T: api.MaxT, Lmax: api.MaxLen}, one, 50, 1<<30 + 50}, {wire, one, 50, 150}, {wire, one, 0, 100}, {api.Config{T: 3, Lmax: 7}, api.Curve{M1: 32768, M2: 32768}, 5, 31}, {wire, api.Curve{D: 10, M2: 65536}, 5, 115}, {wire, api.Curve{M1: 65536, D: 3}, 3, 103},
		{wire, api.Curve{M1: 65536, D: 3}, 4, api.Never}, {wire, api.Curve{}, 1, api.Never}, {wire, api.Curve{}, 0, 100}, {wire, api.Curve{M1: 1, D: 1, M2: 2}, 0, api.Never},
		{wire, one, api.Never - 101, api.Never - 1}, {wire, one, api.Never - 100, api.Never}, {wire, one, 1<<64 - 1, api.Never},
	} {
		if d, e := Delay(c.x, c.c, c.bytes); d != c.want || e != api.OK {
			t.Errorf("%d: %d, %v", i, d, e)
		}
	}
	for _, x := range badLinks {
		if d, e := Delay(x, one, 5); d != 0 || e != api.ErrArg {
			t.Error(x, d, e)
		}
		if d, e := Latest(x, one, nil, 1, 7); d != 0 || e != api.ErrArg {
			t.Error(x, d, e)
		}
	}
}

func TestLatest(t *testing.T) {
	l := []api.Event{in(1, 10, 50), out(1, 10), in(2, 20, 90), in(1, 30, 20), in(1, 31, 5), out(1, 40), out(1, 45), in(1, 500, 7), in(1, 500, -9), {In: true, Class: 1, At: api.Never - 1, Packet: api.Packet{Len: 1}}}
	for i, c := range []struct {
		at   int
		want uint64
		err  api.Errno
	}{
		{0, 160, api.OK}, {3, 180, api.OK}, {4, 185, api.OK}, {7, 607, api.OK}, {8, 607, api.OK}, {9, 608, api.OK},
		{1, 0, api.ErrNone}, {2, 0, api.ErrNone}, {-1, 0, api.ErrNone}, {10, 0, api.ErrNone}, {1 << 40, 0, api.ErrNone},
	} {
		if v, e := Latest(wire, one, l, 1, c.at); v != c.want || e != c.err {
			t.Errorf("%d: %d, %v", i, v, e)
		}
	}
	// the span that asks for the latest tick counts, here the first one: 82 bytes from 10 on
	if v, _ := Latest(wire, api.Curve{M1: 65536, D: 40, M2: 6554}, l[:8], 1, 7); v < 500+107 || v != 607 {
		t.Error(v)
	}
	if v, _ := Latest(wire, api.Curve{M1: 65536, D: 40, M2: 655}, l[:8], 1, 7); v != 10+40+4203+100 {
		t.Error(v)
	}
	if v, e := Latest(wire, one, []api.Event{in(1, api.Never, 5)}, 1, 0); v != api.Never || e != api.OK {
		t.Error(v, e)
	}
	if v, e := Latest(wire, one, []api.Event{in(1, 1<<64-1, 5)}, 1, 0); v != api.Never || e != api.OK {
		t.Error(v, e)
	}
	if v, e := Latest(wire, api.Curve{}, l, 1, 0); v != api.Never || e != api.OK {
		t.Error(v, e)
	}
}

func TestRoomAndAdmits(t *testing.T) {
	if m, e := Room(nil, 0); m != 0 || e != api.ErrState || Admits(nil, 1, one) {
		t.Error(m, e)
	}
	x := hier.New()
	if m, e := Room(x, 0); m != 0 || e != api.ErrArg || Admits(x, 0, one) {
		t.Error(m, e)
	}
	if m, e := Room(x, 1); m != 65536 || e != api.OK || !Admits(x, 1, one) || Admits(x, 1, api.Curve{M1: 65537, M2: 65537}) || Admits(x, 1, api.Curve{M1: 1, D: 1, M2: 2}) || !Admits(x, 1, api.Curve{}) {
		t.Error(m, e)
	}
	x.Add(api.Class{ID: 1, Leaf: true, Rt: api.Curve{M1: 60000, D: 10, M2: 5}, Ls: one, Pkts: 1, Bytes: 1})
	x.Add(api.Class{ID: 2, Leaf: true, Ls: one, Pkts: 1, Bytes: 1})
	// 38.4: a linear curve fits just if its slope is at most Room
	m, e := Room(x, 1)
	if m != 5536 || e != api.OK || !Admits(x, 1, api.Curve{M1: m, M2: m}) || Admits(x, 1, api.Curve{M1: m + 1, M2: m + 1}) || !Admits(x, 1, api.Curve{D: 10, M2: 65531}) {
		t.Error(m, e)
	}
	if m, e := Room(x, 2); m != 0 || e != api.ErrAdmit {
		t.Error(m, e)
	}
}
