package packet

import (
	"math/rand"
	"testing"

	"floodgate/api"
)

func TestMay(t *testing.T) {
	for i, c := range []struct {
		n, most int
		want    api.Errno
	}{
		{1, 1, api.OK}, {2, 1, api.ErrLen}, {0, 1, api.ErrLen}, {-1, 1, api.ErrLen}, {0, 0, api.ErrArg}, {5, -1, api.ErrArg}, {5, api.MaxLen + 1, api.ErrArg},
		{api.MaxLen, api.MaxLen, api.OK}, {api.MaxLen + 1, api.MaxLen, api.ErrLen}, {100, 100, api.OK}, {101, 100, api.ErrLen},
	} {
		if e := May(api.Packet{Len: c.n}, c.most); e != c.want {
			t.Errorf("%d: %v", i, e)
		}
	}
}

func TestTicks(t *testing.T) {
	for i, c := range []struct {
		n, t int
		want uint64
		err  api.Errno
	}{
		{1, 1, 1, api.OK}, {100, 3, 300, api.OK}, {api.MaxLen, api.MaxT, 1 << 30, api.OK}, {0, 1, 0, api.ErrArg}, {-5, 1, 0, api.ErrArg}, {api.MaxLen + 1, 1, 0, api.ErrArg},
		{1, 0, 0, api.ErrArg}, {1, -1, 0, api.ErrArg}, {1, api.MaxT + 1, 0, api.ErrArg},
	} {
		if v, e := Ticks(api.Packet{Len: c.n}, c.t); v != c.want || e != c.err {
			t.Errorf("%d: %d, %v", i, v, e)
		}
	}
}

func TestBytes(t *testing.T) {
	p := api.Packet{ID: 1, Len: 258, Head: api.Header{2, 3, 4, 5}}
	bytes := "\x00\x00\x00\x00\x00\x00\x00\x01\x01\x02\x00\x02\x00\x03\x00\x04\x00\x05"
	if s, e := Encode(p); s != bytes || e != api.OK {
		t.Errorf("%x, %v", s, e)
	}
	if q, e := Decode(bytes); q != p || e != api.OK {
		t.Error(q, e)
	}
	for _, n := range []int{-1, 0, api.MaxLen + 1, 1 << 40} {
		if s, e := Encode(api.Packet{Len: n}); s != "" || e != api.ErrLen {
			t.Errorf("%d: %x, %v", n, s, e)
		}
	}
	for i := range Size {
		if q, e := Decode(bytes[:i]); q != (api.Packet{}) || e != api.ErrShort {
			t.Error(i, q, e)
		}
	}
	for s, want := range map[string]api.Errno{bytes + "\x00": api.ErrLong, bytes[:8] + "\x00\x00" + bytes[10:]: api.ErrLen, bytes[:8] + "\x40\x01" + bytes[10:]: api.ErrLen, bytes[:8] + "\xff\xff" + bytes[10:]: api.ErrLen} {
		if q, e := Decode(s); q != (api.Packet{}) || e != want {
			t.Errorf("%x: %v, %v", s, q, e)
		}
	}
	if q, e := Decode(bytes[:8] + "\x40\x00" + bytes[10:]); q.Len != api.MaxLen || e != api.OK {
		t.Error(q, e)
	}
}

// TestRoundTrips: 9.3.
func TestRoundTrips(t *testing.T) {
	r := rand.New(rand.NewSource(14))
	for range 1000 {
		p := api.Packet{ID: r.Uint64(), Len: 1 + r.Intn(api.MaxLen)}
		for i := range p.Head {
			p.Head[i] = uint16(r.Uint32())
		}
		s, e := Encode(p)
		q, f := Decode(s)
		if e != api.OK || f != api.OK || q != p || len(s) != Size {
			t.Fatalf("%v: %x, %v, %v, %v", p, s, e, q, f)
		}
		if again, _ := Encode(q); again != s {
			t.Fatalf("%x: %x", s, again)
		}
	}
}
