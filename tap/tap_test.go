package tap

import (
	"slices"
	"strings"
	"testing"

	"floodgate/api"
	"floodgate/capture"
	"floodgate/ipv4"
)

func bytes(t *testing.T, l ...capture.Frame) string {
	t.Helper()
	s, err := capture.Encode(l)
	if err != api.OK {
		t.Fatal(err)
	}
	return s
}

func frame(at uint64, n int) capture.Frame {
	return capture.Frame{At: at, Data: strings.Repeat("z", n)}
}

func leaf(id, pkts int) api.Change {
	return api.Change{Kind: api.ChAdd, Class: api.Class{ID: id, Leaf: true, Ls: api.Curve{M1: 65536, M2: 65536}, Pkts: pkts, Bytes: 1000}}
}

// one is a setting of one leaf for all.
func one() api.Script {
	return api.Script{Config: api.Config{T: 1, Lmax: 100}, Ops: []api.Op{{Kind: api.OpChange, Changes: []api.Change{leaf(1, 2)}}, {Kind: api.OpRules, Rules: []api.Rule{{Class: 1}}}}}
}

func hold(t *testing.T, x api.Script, in string, ticks uint64, want Told, out ...capture.Frame) {
	t.Helper()
	want.Out = bytes(t, out...)
	if got, err := Play(x, in, ticks); got != want || err != api.OK {
		t.Errorf("%+v, %v instead of %+v", got, err, want)
	}
}

func TestPlay(t *testing.T) {
	in := bytes(t, frame(5, 40), frame(10, 60))
	hold(t, one(), in, 100, Told{Came: 2, Taken: 2, Sent: 2}, frame(45, 40), frame(105, 60))
	// what is still being sent, or waits, does not come out
	hold(t, one(), in, 95, Told{Came: 2, Taken: 2, Sent: 2}, frame(45, 40), frame(105, 60))
	hold(t, one(), in, 94, Told{Came: 2, Taken: 2, Sent: 1}, frame(45, 40))
	hold(t, one(), in, 35, Told{Came: 2, Taken: 2, Sent: 1}, frame(45, 40))
	hold(t, one(), in, 34, Told{Came: 2, Taken: 2})
	hold(t, one(), in, 0, Told{Came: 2, Taken: 2})
	hold(t, one(), bytes(t), 0, Told{})
	// frames that are too long, or have no room, are not taken
	hold(t, one(), bytes(t, frame(0, 101), frame(0, 100), frame(0, 9), frame(0, 8), frame(0, 7)), 1000, Told{Came: 5, Taken: 3, Sent: 3}, frame(100, 100), frame(109, 9), frame(117, 8))
	// nor are those that no rule sends anywhere; errors of the setting count for nothing
	x := one()
	x.Ops = append(x.Ops, api.Op{Kind: api.OpChange, Changes: []api.Change{leaf(1, 2)}}, api.Op{Kind: api.OpRules, Rules: []api.Rule{{}}})
	hold(t, x, in, 100, Told{Came: 2, Taken: 2, Sent: 2}, frame(45, 40), frame(105, 60))
	x.Ops = append(x.Ops, api.Op{Kind: api.OpRules})
	hold(t, x, in, 100, Told{Came: 2})
	hold(t, api.Script{Config: x.Config}, in, 100, Told{Came: 2})
}

// TestHeaders: datagrams go where their keys send them.
func TestHeaders(t *testing.T) {
	one, _ := ipv4.Encode(ipv4.Header{Proto: 17}, "\x00\x01\x00\x02")
	two, _ := ipv4.Encode(ipv4.Header{Proto: 6}, "\x00\x01\x00\x02more")
	x := api.Script{Config: api.Config{T: 2, Lmax: 100}, Ops: []api.Op{{Kind: api.OpChange, Changes: []api.Change{leaf(1, 9), leaf(2, 9)}}, {Kind: api.OpRules, Rules: []api.Rule{{Mask: api.Header{0xff00}, Want: api.Header{0x0600}, Class: 2}}}}}
	hold(t, x, bytes(t, capture.Frame{At: 0, Data: one}, capture.Frame{At: 7, Data: two}, frame(9, 30)), 500, Told{Came: 3, Taken: 1, Sent: 1}, capture.Frame{At: 7 + 2*28, Data: two})
}

func TestErrors(t *testing.T) {
	in := bytes(t, frame(5, 40), frame(10, 60))
	bad := one()
	bad.Config.T = 0
	with := func(o api.Op) api.Script {
		x := one()
		x.Ops = append(x.Ops, o)
		return x
	}
	many := func(n int) api.Script {
		x := one()
		x.Ops = append(x.Ops, slices.Repeat([]api.Op{{Kind: api.OpRules, Rules: []api.Rule{{Class: 1}}}}, n-2)...)
		return x
	}
	for i, c := range []struct {
		x     api.Script
		in    string
		ticks uint64
		want  api.Errno
	}{
		{bad, "x", 0, api.ErrArg}, {with(api.Op{Kind: api.OpAdvance}), "x", 0, api.ErrArg}, {with(api.Op{Kind: api.OpPacket}), in, 0, api.ErrArg}, {with(api.Op{}), in, 0, api.ErrArg}, {with(api.Op{Kind: 5}), in, 0, api.ErrArg},
		{many(2000), "x", 0, api.ErrShort}, {one(), "flox", 0, api.ErrForm}, {one(), in + "x", 1<<64 - 1, api.ErrShort}, {many(995), in, 5, api.OK}, {many(996), in, 5, api.ErrLong}, {many(996), in, 1<<64 - 1, api.ErrLong},
		{one(), in, api.MaxClock - 10, api.OK}, {one(), in, api.MaxClock - 9, api.ErrClock}, {one(), in, 1<<64 - 1, api.ErrClock},
	} {
		got, err := Play(c.x, c.in, c.ticks)
		if err != c.want || err != api.OK && got != (Told{}) {
			t.Errorf("%d: %+v, %v", i, got, err)
		}
	}
}
