package flow

import (
	"math/rand"
	"slices"
	"strings"
	"testing"

	"floodgate/api"
	"floodgate/ipv4"
)

func datagram(h ipv4.Header, body string) string {
	s, _ := ipv4.Encode(h, body)
	return s
}

func TestKey(t *testing.T) {
	h := ipv4.Header{Proto: 17, TOS: 0xb8, Src: 0x0a000001, Dst: 0x0a000002}
	body := "\x00\x35\x03\xe8rest"
	key := func(change func(*ipv4.Header), body string) api.Header {
		x := h
		change(&x)
		k, e := Key(datagram(x, body))
		if e != api.OK {
			t.Fatal(e)
		}
		return k
	}
	for i, c := range []struct{ got, want api.Header }{
		{key(func(*ipv4.Header) {}, body), api.Header{0x112e, 53, 1000, 3}}, {key(func(x *ipv4.Header) { x.Proto = 6 }, body[:4]), api.Header{0x062e, 53, 1000, 3}}, {key(func(*ipv4.Header) {}, body[:3]), api.Header{0x112e, 0, 0, 3}},
		{key(func(x *ipv4.Header) { x.Proto = 1 }, body), api.Header{0x012e, 0, 0, 3}}, {key(func(x *ipv4.Header) { x.Offset = 1 }, body), api.Header{0x112e, 0, 0, 3}}, {key(func(x *ipv4.Header) { x.Flags, x.TOS = 7, 0xff }, body), api.Header{0x113f, 53, 1000, 3}},
		{key(func(x *ipv4.Header) { x.TOS, x.Proto = 3, 255 }, ""), api.Header{0xff00, 0, 0, 3}}, {key(func(x *ipv4.Header) { x.Src, x.Dst = 0x12345678, 0x9abcdef0 }, "\xff\xfe\x01\x02"), api.Header{0x112e, 0xfffe, 0x0102, 0x1234 ^ 0x5678 ^ 0x9abc ^ 0xdef0}},
		{key(func(x *ipv4.Header) { x.Options = "abcdefgh" }, body), api.Header{0x112e, 53, 1000, 3}},
	} {
		if c.got != c.want {
			t.Errorf("%d: %x", i, c.got)
		}
	}
	s := datagram(h, body)
	for x, want := range map[string]api.Errno{"": api.ErrShort, s[:19]: api.ErrShort, s + "x": api.ErrLong, "\x55" + s[1:]: api.ErrForm, s[:8] + "\x09" + s[9:]: api.ErrState} {
		if k, e := Key(x); k != (api.Header{}) || e != want {
			t.Error(k, e)
		}
		if p, e := Packet(1, x, 0); p != (api.Packet{}) || e != want {
			t.Error(p, e)
		}
	}
}

func TestPacket(t *testing.T) {
	s := datagram(ipv4.Header{Proto: 17}, "\x00\x01\x00\x02")
	want := api.Packet{ID: 9, Len: 24, Head: api.Header{0x1100, 1, 2, 0}}
	for most, err := range map[int]api.Errno{24: api.OK, 1 << 40: api.OK, 23: api.ErrLen, 0: api.ErrLen, -1: api.ErrLen} {
		p, e := Packet(9, s, most)
		if e != err || e == api.OK && p != want || e != api.OK && p != (api.Packet{}) {
			t.Error(most, p, e)
		}
	}
	for n, err := range map[int]api.Errno{api.MaxLen: api.OK, api.MaxLen + 1: api.ErrLen} {
		if p, e := Packet(1, datagram(ipv4.Header{}, strings.Repeat("x", n-20)), 1<<20); e != err || e == api.OK && p.Len != n {
			t.Error(n, p, e)
		}
	}
}

// TestBothWays: 45.3.
func TestBothWays(t *testing.T) {
	r := rand.New(rand.NewSource(44))
	for range 200 {
		a, b := r.Uint32(), r.Uint32()
		x, _ := Key(datagram(ipv4.Header{Src: a, Dst: b}, ""))
		y, _ := Key(datagram(ipv4.Header{Src: b, Dst: a}, ""))
		if x[3] != y[3] {
			t.Fatal(a, b)
		}
	}
}

func TestTableEdges(t *testing.T) {
	k := api.Header{1, 2, 3, 4}
	var none *Table
	if none.Add(k, 1) != api.ErrState || none.Get(k) != (Flow{Key: k}) || len(none.Heavy(5)) != 0 || none.Len() != 0 {
		t.Error("nil")
	}
	for _, x := range []*Table{New(), {}} {
		if x.Get(k) != (Flow{Key: k}) || len(x.Heavy(5)) != 0 || x.Add(k, -1) != api.ErrLen || x.Len() != 0 || x.Add(k, 0) != api.OK || x.Get(k) != (Flow{k, 1, 0}) || x.Len() != 1 {
			t.Error("no flows")
		}
		for i := range 255 {
			if e := x.Add(api.Header{0, 0, 9, uint16(i)}, i); e != api.OK {
				t.Fatal(e)
			}
		}
		if x.Add(api.Header{7}, 1) != api.ErrFull || x.Add(api.Header{7}, -1) != api.ErrLen || x.Add(k, 50) != api.OK || x.Get(k) != (Flow{k, 2, 50}) || x.Len() != 256 {
			t.Error("one flow more than has room")
		}
		if len(x.Heavy(1000)) != 256 || len(x.Heavy(256)) != 256 || len(x.Heavy(0)) != 0 || len(x.Heavy(-1)) != 0 || x.Heavy(1)[0].Bytes != 254 {
			t.Error("Heavy")
		}
	}
	x := New()
	for range 3 {
		x.Add(k, 1<<63-1)
	}
	if x.Get(k) != (Flow{k, 3, 1<<63 - 3}) {
		t.Error(x.Get(k))
	}
}

// TestHeavy: 45.2 and 45.4.
func TestHeavy(t *testing.T) {
	r := rand.New(rand.NewSource(45))
	for range 200 {
		x, m := New(), map[api.Header]Flow{}
		for range 60 {
			k := api.Header{uint16(r.Intn(3)), uint16(r.Intn(2)), 0, uint16(r.Intn(3))}
			n := r.Intn(4)
			x.Add(k, n)
			m[k] = Flow{k, m[k].Packets + 1, m[k].Bytes + uint64(n)}
		}
		all := x.Heavy(100)
		if len(all) != len(m) || x.Len() != len(m) {
			t.Fatal(len(all), len(m))
		}
		for i, f := range all {
			if f != m[f.Key] || x.Get(f.Key) != f {
				t.Fatal(f, m[f.Key])
			}
			if i > 0 && (all[i-1].Bytes < f.Bytes || all[i-1].Bytes == f.Bytes && slices.Compare(all[i-1].Key[:], f.Key[:]) >= 0) {
				t.Fatal(all[i-1], f)
			}
			if !slices.Equal(x.Heavy(i), all[:i]) {
				t.Fatal(i)
			}
		}
	}
}
