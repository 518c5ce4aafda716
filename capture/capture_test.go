package capture

import (
	"math/rand"
	"reflect"
	"slices"
	"strings"
	"testing"

	"floodgate/api"
	"floodgate/flow"
	"floodgate/ipv4"
)

func head(at uint64, size int) string { return string(put(put(nil, at, 8), uint64(size), 2)) }

func TestExample(t *testing.T) {
	l := []Frame{{5, "ab"}}
	want := "\x66\x6c\x6f\x67\x00\x00\x00\x00\x00\x00\x00\x05\x00\x02\x61\x62"
	if s, e := Encode(l); s != want || e != api.OK {
		t.Errorf("%x, %v", s, e)
	}
	if x, e := Decode(want); !slices.Equal(x, l) || e != api.OK {
		t.Error(x, e)
	}
	if s, e := Encode(nil); s != "flog" || e != api.OK {
		t.Error(s, e)
	}
	if x, e := Decode("flog"); len(x) != 0 || e != api.OK {
		t.Error(x, e)
	}
}

func TestFramesThatMayNotBe(t *testing.T) {
	long, longer := strings.Repeat("x", api.MaxLen), strings.Repeat("x", api.MaxLen+1)
	for i, c := range []struct {
		l    []Frame
		want api.Errno
	}{
		{make([]Frame, 1001), api.ErrLong}, {make([]Frame, 1000), api.ErrLen}, {slices.Repeat([]Frame{{7, "x"}}, 1000), api.OK}, {slices.Repeat([]Frame{{7, "x"}}, 1001), api.ErrLong},
		{[]Frame{{5, ""}}, api.ErrLen}, {[]Frame{{5, longer}}, api.ErrLen}, {[]Frame{{5, long}}, api.OK}, {[]Frame{{5, "x"}, {4, "x"}}, api.ErrClock}, {[]Frame{{5, "x"}, {5, "x"}}, api.OK}, {[]Frame{{api.MaxClock, "x"}}, api.OK}, {[]Frame{{api.MaxClock + 1, "x"}}, api.ErrClock},
		{[]Frame{{api.MaxClock + 1, ""}}, api.ErrLen}, {[]Frame{{1 << 63, "x"}, {1, ""}}, api.ErrClock}, {[]Frame{{3, ""}, {1, "x"}}, api.ErrLen},
	} {
		s, e := Encode(c.l)
		ops, f := Ops(c.l, 100)
		if e != c.want || f != c.want || e != api.OK && (s != "" || len(ops) != 0) {
			t.Errorf("%d: %v, %v", i, e, f)
		}
		if e == api.OK {
			if x, e := Decode(s); !slices.Equal(x, c.l) || e != api.OK {
				t.Errorf("%d: %v", i, e)
			}
		}
	}
}

func TestBytesThatMayNotBe(t *testing.T) {
	full := "flog" + strings.Repeat(head(7, 1)+"x", 1000)
	for s, want := range map[string]api.Errno{
		"": api.ErrShort, "flo": api.ErrShort, "xxx": api.ErrShort, "flox": api.ErrForm, "Flog": api.ErrForm, "xflog": api.ErrForm,
		"flogx": api.ErrShort, "flog" + head(5, 2)[:9]: api.ErrShort, "flog" + head(5, 0): api.ErrLen, "flog" + head(5, api.MaxLen+1): api.ErrLen, "flog" + head(5, 65535): api.ErrLen, "flog" + head(5, 2): api.ErrShort, "flog" + head(5, 2) + "a": api.ErrShort,
		"flog" + head(1<<63, 0) + "a": api.ErrLen, "flog" + head(1<<63, 2) + "a": api.ErrShort, "flog" + head(1<<63, 1) + "a": api.ErrClock, "flog" + head(api.MaxClock+1, 1) + "a": api.ErrClock, "flog" + head(5, 1) + "a" + head(4, 1) + "a": api.ErrClock, "flog" + head(5, 1) + "a" + head(5, 1): api.ErrShort,
		"flog" + head(5, 1) + "ab": api.ErrShort, full + "x": api.ErrLong, full + head(1, 0): api.ErrLong,
	} {
		if x, e := Decode(s); len(x) != 0 || e != want {
			t.Errorf("%x: %v instead of %v", s, e, want)
		}
	}
	if x, e := Decode(full); len(x) != 1000 || e != api.OK {
		t.Error(e)
	}
	if x, e := Decode("flog" + head(api.MaxClock, 1) + "a"); !slices.Equal(x, []Frame{{api.MaxClock, "a"}}) || e != api.OK {
		t.Error(x, e)
	}
}

func TestOps(t *testing.T) {
	data, _ := ipv4.Encode(ipv4.Header{Proto: 17}, "\x00\x01\x00\x02")
	l := []Frame{{0, "ab"}, {5, data}, {5, "xyz"}, {12, data}}
	p, _ := flow.Packet(1, data, 100)
	want := []api.Op{
		{Kind: api.OpPacket, Packet: api.Packet{ID: 0, Len: 2}}, {Kind: api.OpAdvance, Ticks: 5}, {Kind: api.OpPacket, Packet: p}, {Kind: api.OpPacket, Packet: api.Packet{ID: 2, Len: 3}},
		{Kind: api.OpAdvance, Ticks: 7}, {Kind: api.OpPacket, Packet: api.Packet{ID: 3, Len: 24, Head: p.Head}},
	}
	if p.Head == (api.Header{}) {
		t.Fatal(p)
	}
	ops, e := Ops(l, 24)
	if !reflect.DeepEqual(ops, want) || e != api.OK {
		t.Error(ops, e)
	}
	// one that is too long for a packet stays a packet, with an empty header
	ops, _ = Ops(l, 23)
	want[2].Packet.Head, want[5].Packet.Head = api.Header{}, api.Header{}
	if !reflect.DeepEqual(ops, want) {
		t.Error(ops)
	}
	if ops, e := Ops(nil, 5); len(ops) != 0 || e != api.OK {
		t.Error(ops, e)
	}
}

func TestSent(t *testing.T) {
	l := []Frame{{5, "a"}, {1, "bb"}}
	out := func(id, done uint64) api.Event {
		return api.Event{At: 3, Done: done, Packet: api.Packet{ID: id, Len: 9}}
	}
	in := out(0, 0)
	in.In = true
	got := Sent(l, []api.Event{out(1, 50), in, out(2, 60), out(0, 7), out(1<<64-1, 8), out(1, 9)})
	if !slices.Equal(got, []Frame{{50, "bb"}, {7, "a"}, {9, "bb"}}) {
		t.Error(got)
	}
	if len(Sent(nil, []api.Event{out(0, 1)})) != 0 || len(Sent(l, nil)) != 0 {
		t.Error("frames of none")
	}
}

// TestRoundTrips: 46.4 and 46.5.
func TestRoundTrips(t *testing.T) {
	r := rand.New(rand.NewSource(46))
	for range 300 {
		var l []Frame
		now := uint64(r.Intn(5))
		for range r.Intn(20) {
			now += uint64(r.Intn(3) * r.Intn(100))
			l = append(l, Frame{now, strings.Repeat("z", 1+r.Intn(30))})
		}
		s, e := Encode(l)
		x, f := Decode(s)
		if e != api.OK || f != api.OK || !slices.Equal(x, l) {
			t.Fatal(l, x, e, f)
		}
		b := []byte(s)
		b[r.Intn(len(b))] ^= 1 << r.Intn(8)
		if x, e := Decode(string(b)); e == api.OK {
			if again, e := Encode(x); again != string(b) || e != api.OK {
				t.Fatalf("%x: %x, %v", b, again, e)
			}
		}
		ops, _ := Ops(l, 100)
		clock, place := uint64(0), 0
		for _, o := range ops {
			if o.Kind == api.OpAdvance {
				if clock += o.Ticks; o.Ticks == 0 {
					t.Fatal(ops)
				}
				continue
			}
			if o.Packet.ID != uint64(place) || l[place].At != clock || o.Packet.Len != len(l[place].Data) {
				t.Fatal(ops)
			}
			place++
		}
		if place != len(l) {
			t.Fatal(place)
		}
	}
}
