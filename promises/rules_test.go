package promises

import (
	"math/rand"
	"reflect"
	"slices"
	"strings"
	"testing"

	"floodgate/admit"
	"floodgate/api"
	"floodgate/audit"
	"floodgate/behind"
	"floodgate/busy"
	"floodgate/capture"
	"floodgate/conform"
	"floodgate/curve"
	"floodgate/desk"
	"floodgate/fair"
	"floodgate/flow"
	"floodgate/inspect"
	"floodgate/ipv4"
	"floodgate/limit"
	"floodgate/line"
	"floodgate/lines"
	"floodgate/meter"
	"floodgate/packet"
	"floodgate/plan"
	"floodgate/rate"
	"floodgate/real"
	"floodgate/replay"
	"floodgate/script"
	"floodgate/serve"
	"floodgate/share"
	"floodgate/spans"
	"floodgate/sum"
	"floodgate/sweep"
	"floodgate/tap"
	"floodgate/top"
	"floodgate/trace"
	"floodgate/upper"
	"floodgate/wake"
	"floodgate/wide"
)

// odd makes numbers up, many of them at the edges.
type odd struct{ *rand.Rand }

func (r odd) u() uint64 {
	edges := []uint64{0, 1, 2, 5, 100, 1<<16 - 1, 1 << 16, 1<<20 + 1, 1 << 32, 1 << 40, api.MaxClock - 1, api.MaxClock, api.MaxClock + 1, api.Never - 1, api.Never, api.Never + 1, 1<<64 - 2, 1<<64 - 1}
	if r.Intn(2) == 0 {
		return uint64(r.Intn(300))
	}
	return edges[r.Intn(len(edges))]
}

func (r odd) i() int { return int(r.u()) - r.Intn(2) }

func (r odd) wide() wide.Num { return wide.Num{Hi: r.u(), Lo: r.u()} }

func (r odd) curve() api.Curve {
	if r.Intn(2) == 0 {
		return falling(r.Rand, 70000)
	}
	return api.Curve{M1: r.u(), D: r.u(), M2: r.u()}
}

func (r odd) head() api.Header { return api.Header{uint16(r.u()), uint16(r.u()), 0, uint16(r.u())} }

func (r odd) packet() api.Packet { return api.Packet{ID: r.u(), Len: r.i(), Head: r.head()} }

func (r odd) class() api.Class {
	return api.Class{ID: r.i(), Parent: r.i(), Leaf: r.Intn(2) == 0, Rt: r.curve(), Ls: r.curve(), Ul: r.curve(), Pkts: r.i(), Bytes: r.i()}
}

func (r odd) config() api.Config {
	if r.Intn(3) == 0 {
		return api.Config{T: r.i(), Lmax: r.i()}
	}
	return api.Config{T: 1 + r.Intn(3), Lmax: 1 + r.Intn(200)}
}

func (r odd) events() []api.Event {
	l := make([]api.Event, r.Intn(12))
	for i := range l {
		l[i] = api.Event{Op: r.i(), In: r.Intn(2) == 0, Real: r.Intn(2) == 0, At: r.u(), Done: r.u(), Class: r.Intn(4), Packet: r.packet()}
	}
	return l
}

func (r odd) script() api.Script {
	x := api.Script{Config: r.config()}
	for range r.Intn(20) {
		o := api.Op{Kind: r.Intn(6), Packet: r.packet(), Ticks: r.u()}
		for range r.Intn(4) {
			o.Changes = append(o.Changes, api.Change{Kind: r.Intn(5), Class: r.class()})
			o.Rules = append(o.Rules, api.Rule{Mask: r.head(), Class: r.Intn(5)})
		}
		x.Ops = append(x.Ops, o)
	}
	return x
}

func (r odd) text(signs string, most int) string {
	b := make([]byte, r.Intn(most))
	for i := range b {
		b[i] = signs[r.Intn(len(signs))]
	}
	return string(b)
}

// TestNoCallDies: R1: whatever a call is given, it answers; and R3: what is handed in is not changed.
func TestNoCallDies(t *testing.T) {
	r := odd{rand.New(rand.NewSource(51))}
	for range 4000 {
		c, l := r.curve(), r.events()
		kept := slices.Clone(l)
		x, leaves := r.config(), []int{r.Intn(4), r.Intn(4)}
		spans.Of(l, leaves)
		serve.Kept(x, c, l, 1, r.u())
		serve.Broken(x, c, l, 1)
		limit.Broken(c, r.i(), l, leaves)
		busy.Stretches(l)
		busy.Sending(l)
		busy.Late(l)
		audit.Check(x, l)
		audit.Waiting(l, 1)
		plan.Latest(x, c, l, 1, r.i())
		plan.Delay(x, c, r.u())
		conform.Burst(r.u(), l, 1)
		conform.Bound(x, c, r.u())
		meter.Of(l, leaves, r.u(), r.Intn(10))
		trace.Came(l, leaves, r.u(), r.u())
		trace.Sent(l, leaves, r.u(), r.u())
		replay.Differ(api.Out{Events: l, Results: make([]api.Result, r.Intn(3))}, api.Out{Results: make([]api.Result, r.Intn(3))})
		replay.Ahead(api.Out{Events: l}, r.i())
		capture.Sent([]capture.Frame{{Data: "x"}}, l)
		for _, e := range l {
			trace.Line(e)
			packet.Encode(e.Packet)
			packet.Ticks(e.Packet, r.i())
		}
		if !slices.Equal(l, kept) {
			t.Fatal("events are changed")
		}
	}
}

func TestNoNumberIsTooOdd(t *testing.T) {
	r := odd{rand.New(rand.NewSource(52))}
	for range 20000 {
		c, d := r.curve(), r.curve()
		curve.Service(c, r.u())
		curve.Ticks(c, r.wide())
		curve.Scale(r.i())
		one := line.Line{X: r.u(), Y: r.wide(), M: r.u()}
		line.At(one, r.u())
		line.Reach(one, r.wide())
		run := lines.Meet(lines.Start(c, r.u(), r.wide()), lines.Ready(d, r.u(), r.wide()))
		lines.At(run, r.u())
		lines.Reach(run, r.wide())
		l := []api.Curve{c, d, r.curve()}
		sum.Service(l, r.u())
		admit.Fits(r.i(), l)
		admit.Full(r.i(), l)
		admit.Room(1+r.Intn(3), l)
		real.Took(real.Wake(real.Leaf{Has: true, Deadlines: run, Picked: r.u()}, d, r.u(), r.i()), r.i(), r.i())
		share.Took(share.Wake(share.Child{Has: true, Run: run}, c, r.u(), r.u()), r.u())
		upper.Took(upper.Wake(upper.Cap{Has: true, Run: run}, c, r.u(), r.u()), r.u())
		upper.Most(c, r.u(), r.i())
		wake.Idle(r.u(), r.u(), r.u(), r.u())
		a, b := fair.Got{Slope: r.u(), Bytes: r.u()}, fair.Got{Slope: r.u(), Bytes: r.u()}
		fair.Fair(a, b, r.i(), r.u())
		behind.Holds(a, b, r.i(), r.u())
		behind.Least(r.u(), []uint64{r.u(), r.u()}, r.u(), r.i())
		rate.Slope(r.u(), r.u())
		rate.Ticks(r.u(), r.u())
		rate.Byte(r.u(), r.u())
		rate.RateText(r.u())
		rate.TimeText(r.u())
	}
}

func TestNoTextIsTooOdd(t *testing.T) {
	r := odd{rand.New(rand.NewSource(53))}
	words := strings.Fields("link add set del commit rule rules put go forget show clock class leaf inner - 0 1 2 100 65536 1:2:3 0.0.0.0 18446744073709551615 99999999999999999999 x")
	d := desk.New()
	for range 20000 {
		var said []string
		for range r.Intn(10) {
			said = append(said, words[r.Intn(len(words))])
		}
		d.Line(strings.Join(said, " "))
		s := r.text("0123456789 :-.kmgbitus\xff", 60)
		d.Line(s)
		trace.Parse(s)
		inspect.ParseCurve(s)
		inspect.ParseClass(s)
		rate.Rate(s)
		rate.Time(s)
		rate.Curve(s, r.u())
		b := r.text("\x00\x01\x02\x40\x45\xff", 60)
		packet.Decode(b)
		script.Decode(b)
		script.Decode("\x00\x00\x00\x01\x00\x00\x00\x64\x00\x02" + b)
		ipv4.Decode("\x45" + b)
		ipv4.Sum(b)
		flow.Packet(r.u(), b, r.i())
		capture.Decode("flog" + b)
	}
}

// TestNoScriptIsTooOdd: also none that may not be run.
func TestNoScriptIsTooOdd(t *testing.T) {
	r := odd{rand.New(rand.NewSource(54))}
	for range 3000 {
		x := r.script()
		plain := script.Plain(x)
		a, e := top.Run(x)
		b, f := top.Run(plain)
		if e != f || !reflect.DeepEqual(a, b) {
			t.Fatal(x)
		}
		sweep.Places(x)
		if y := sweep.Sweep(x); !reflect.DeepEqual(sweep.Sweep(y), y) {
			t.Fatal(x)
		}
		replay.First(x, r.i())
		script.Encode(x)
		tap.Play(x, "flog", r.u())
		tap.Play(api.Script{Config: x.Config}, "flog"+r.text("\x00\x01x", 40), r.u())
		if !reflect.DeepEqual(script.Plain(x), plain) {
			t.Fatal("the script is changed")
		}
	}
}
