package script

import (
	"math/rand"
	"reflect"
	"slices"
	"testing"

	"floodgate/api"
)

func TestExample(t *testing.T) {
	x := api.Script{Config: api.Config{T: 1, Lmax: 100}, Ops: []api.Op{{Kind: api.OpAdvance, Ticks: 5}}}
	want := "\x00\x00\x00\x01\x00\x00\x00\x64\x00\x01\x04\x00\x00\x00\x00\x00\x00\x00\x05"
	if s, e := Encode(x); s != want || e != api.OK {
		t.Errorf("%x, %v", s, e)
	}
	if y, e := Decode(want); !reflect.DeepEqual(x, y) || e != api.OK {
		t.Error(y, e)
	}
}

// full has each kind of operation, and no field that is 0.
func full() api.Script {
	c := api.Class{ID: 0x10000, Parent: 0x203, Leaf: true, Rt: api.Curve{M1: 0x01020304, D: 0x050607, M2: 0x08090a0b}, Ls: api.Curve{M1: 1, D: 2, M2: 3}, Ul: api.Curve{M1: 4, D: 5, M2: 6}, Pkts: 64, Bytes: 0x100000}
	return api.Script{Config: api.Config{T: 0x10000, Lmax: 0x4000}, Ops: []api.Op{
		{Kind: api.OpChange, Changes: []api.Change{{Kind: 3, Class: c}}},
		{Kind: api.OpRules, Rules: []api.Rule{{Mask: api.Header{1, 2, 3, 4}, Want: api.Header{5, 6, 7, 8}, Class: 0x10000}}},
		{Kind: api.OpPacket, Packet: api.Packet{ID: 0x0102030405060708, Len: 0x4000, Head: api.Header{9, 10, 11, 0xffff}}},
		{Kind: api.OpAdvance, Ticks: 1<<64 - 1},
	}}
}

const fullBytes = "\x00\x01\x00\x00" + "\x00\x00\x40\x00" + "\x00\x04" +
	"\x01\x01\x03" + "\x00\x01\x00\x00" + "\x00\x00\x02\x03" + "\x01" + "\x01\x02\x03\x04\x00\x05\x06\x07\x08\x09\x0a\x0b" + "\x00\x00\x00\x01\x00\x00\x00\x02\x00\x00\x00\x03" + "\x00\x00\x00\x04\x00\x00\x00\x05\x00\x00\x00\x06" + "\x40" + "\x00\x10\x00\x00" +
	"\x02\x01" + "\x00\x01\x00\x02\x00\x03\x00\x04" + "\x00\x05\x00\x06\x00\x07\x00\x08" + "\x00\x01\x00\x00" +
	"\x03" + "\x01\x02\x03\x04\x05\x06\x07\x08" + "\x40\x00" + "\x00\x09\x00\x0a\x00\x0b\xff\xff" +
	"\x04" + "\xff\xff\xff\xff\xff\xff\xff\xff"

func TestAllFields(t *testing.T) {
	if s, e := Encode(full()); s != fullBytes || e != api.OK {
		t.Errorf("%x, %v", s, e)
	}
	x, e := Decode(fullBytes)
	if !reflect.DeepEqual(x, full()) || e != api.OK {
		t.Error(x, e)
	}
	// 29.4: what is cut off anywhere is short
	for i := range len(fullBytes) {
		if x, e := Decode(fullBytes[:i]); !reflect.DeepEqual(x, api.Script{}) || e != api.ErrShort {
			t.Error(i, x, e)
		}
	}
	if x, e := Decode(fullBytes + "\x00"); !reflect.DeepEqual(x, api.Script{}) || e != api.ErrLong {
		t.Error(x, e)
	}
}

func TestNumbersThatMayNotBe(t *testing.T) {
	for i, change := range []func(*api.Script){
		func(x *api.Script) { x.Config.T = 0 }, func(x *api.Script) { x.Config.T = api.MaxT + 1 }, func(x *api.Script) { x.Config.T = -1 },
		func(x *api.Script) { x.Config.Lmax = 0 }, func(x *api.Script) { x.Config.Lmax = api.MaxLen + 1 }, func(x *api.Script) { x.Config.Lmax = 1<<32 + 1 },
		func(x *api.Script) { x.Ops = make([]api.Op, api.MaxOps+1) },
		func(x *api.Script) { x.Ops[0].Kind = 0 }, func(x *api.Script) { x.Ops[3].Kind = 5 }, func(x *api.Script) { x.Ops[3].Kind = -1 }, func(x *api.Script) { x.Ops[3].Kind = 256 + 4 },
		func(x *api.Script) { x.Ops[0].Changes = slices.Repeat(x.Ops[0].Changes, 33) },
		func(x *api.Script) { x.Ops[0].Changes[0].Kind = 0 }, func(x *api.Script) { x.Ops[0].Changes[0].Kind = 4 }, func(x *api.Script) { x.Ops[0].Changes[0].Kind = -7 },
		func(x *api.Script) { x.Ops[0].Changes[0].Class.ID = -1 }, func(x *api.Script) { x.Ops[0].Changes[0].Class.ID = api.MaxID + 1 },
		func(x *api.Script) { x.Ops[0].Changes[0].Class.Parent = -1 }, func(x *api.Script) { x.Ops[0].Changes[0].Class.Parent = api.MaxID + 1 },
		func(x *api.Script) { x.Ops[0].Changes[0].Class.Rt.M1 = 1 << 32 }, func(x *api.Script) { x.Ops[0].Changes[0].Class.Ls.M2 = 1 << 32 }, func(x *api.Script) { x.Ops[0].Changes[0].Class.Ul.D = api.MaxDelay + 1 },
		func(x *api.Script) { x.Ops[0].Changes[0].Class.Pkts = api.MaxPkts + 1 }, func(x *api.Script) { x.Ops[0].Changes[0].Class.Pkts = -1 },
		func(x *api.Script) { x.Ops[0].Changes[0].Class.Bytes = api.MaxQueue + 1 }, func(x *api.Script) { x.Ops[0].Changes[0].Class.Bytes = -1 },
		func(x *api.Script) { x.Ops[1].Rules = slices.Repeat(x.Ops[1].Rules, 33) }, func(x *api.Script) { x.Ops[1].Rules[0].Class = -1 }, func(x *api.Script) { x.Ops[1].Rules[0].Class = api.MaxID + 1 },
		func(x *api.Script) { x.Ops[2].Packet.Len = 0 }, func(x *api.Script) { x.Ops[2].Packet.Len = -1 }, func(x *api.Script) { x.Ops[2].Packet.Len = api.MaxLen + 1 },
	} {
		x := full()
		change(&x)
		if s, e := Encode(x); s != "" || e != api.ErrForm {
			t.Errorf("%d: %x, %v", i, s, e)
		}
	}
	for at, b := range map[int]byte{0: 1, 3: 1, 4: 1, 6: 0x41, 8: 0xff, 10: 0, 11: 33, 12: 4, 16: 1, 21: 2, 26: 0x11, 58: 65, 60: 0x11, 63: 0, 64: 33, 84: 1, 94: 0x41} {
		s := []byte(fullBytes)
		s[at] = b
		if x, e := Decode(string(s)); !reflect.DeepEqual(x, api.Script{}) || e != api.ErrForm {
			t.Errorf("%d: %v", at, e)
		}
	}
	// the first fault from the front is told
	if _, e := Decode("\x00\x00\x00\x00\x00"); e != api.ErrForm {
		t.Error(e)
	}
	if _, e := Decode("\x00\x00\x00"); e != api.ErrShort {
		t.Error(e)
	}
	if _, e := Decode(""); e != api.ErrShort {
		t.Error(e)
	}
}

func TestPlain(t *testing.T) {
	x := full()
	all := api.Op{Changes: x.Ops[0].Changes, Rules: x.Ops[1].Rules, Packet: x.Ops[2].Packet, Ticks: x.Ops[3].Ticks}
	y := api.Script{Config: api.Config{T: -5, Lmax: 1 << 40}}
	for kind := -1; kind < 7; kind++ {
		o := all
		o.Kind = kind
		y.Ops = append(y.Ops, o)
	}
	p := Plain(y)
	if p.Config != y.Config || len(p.Ops) != len(y.Ops) {
		t.Fatal(p)
	}
	for i, o := range p.Ops {
		want := api.Op{Kind: i - 1}
		if want.Kind >= 1 && want.Kind <= 4 {
			want = x.Ops[want.Kind-1]
		}
		if !reflect.DeepEqual(o, want) {
			t.Error(o, want)
		}
	}
	// the lists of a plain script are its own
	p.Ops[2].Changes[0].Kind, p.Ops[3].Rules[0].Class = 77, 77
	if y.Ops[2].Changes[0].Kind != 3 || y.Ops[3].Rules[0].Class != 0x10000 {
		t.Error("a plain script shares memory")
	}
	// what is not told of an operation's kind counts for nothing
	y = full()
	y.Ops[3].Packet.Len, y.Ops[0].Rules = -1, make([]api.Rule, 99)
	if s, e := Encode(y); s != fullBytes || e != api.OK {
		t.Error(e)
	}
}

func some(r *rand.Rand) api.Script {
	x := api.Script{Config: api.Config{T: 1 + r.Intn(api.MaxT), Lmax: 1 + r.Intn(api.MaxLen)}}
	head := func() api.Header { return api.Header{uint16(r.Uint32()), uint16(r.Uint32()), 0, uint16(r.Uint32())} }
	bend := func() api.Curve {
		return api.Curve{M1: uint64(r.Uint32()), D: uint64(r.Intn(api.MaxDelay + 1)), M2: uint64(r.Uint32())}
	}
	for range r.Intn(9) {
		o := api.Op{Kind: 1 + r.Intn(4)}
		switch o.Kind {
		case api.OpChange:
			for range r.Intn(4) {
				o.Changes = append(o.Changes, api.Change{Kind: 1 + r.Intn(3), Class: api.Class{ID: r.Intn(api.MaxID + 1), Parent: r.Intn(9), Leaf: r.Intn(2) == 0, Rt: bend(), Ls: bend(), Ul: bend(), Pkts: r.Intn(65), Bytes: r.Intn(api.MaxQueue + 1)}})
			}
		case api.OpRules:
			for range r.Intn(4) {
				o.Rules = append(o.Rules, api.Rule{Mask: head(), Want: head(), Class: r.Intn(api.MaxID + 1)})
			}
		case api.OpPacket:
			o.Packet = api.Packet{ID: r.Uint64(), Len: 1 + r.Intn(api.MaxLen), Head: head()}
		case api.OpAdvance:
			o.Ticks = r.Uint64()
		}
		x.Ops = append(x.Ops, o)
	}
	return x
}

// TestRoundTrips: 29.3 and 29.4.
func TestRoundTrips(t *testing.T) {
	r := rand.New(rand.NewSource(30))
	for range 500 {
		x := some(r)
		s, e := Encode(x)
		y, f := Decode(s)
		if e != api.OK || f != api.OK || !reflect.DeepEqual(y, Plain(x)) {
			t.Fatal(x, y, e, f)
		}
		if len(s) > 0 {
			if _, e := Decode(s[:r.Intn(len(s))]); e != api.ErrShort {
				t.Fatal(e)
			}
		}
		// Encode of Decode are the bytes
		b := []byte(s)
		b[r.Intn(len(b))] ^= 1 << r.Intn(8)
		if z, e := Decode(string(b)); e == api.OK {
			if again, e := Encode(z); again != string(b) || e != api.OK {
				t.Fatalf("%x: %x, %v", b, again, e)
			}
		}
	}
}
