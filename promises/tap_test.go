package promises

import (
	"math/rand"
	"slices"
	"testing"

	"floodgate/api"
	"floodgate/behind"
	"floodgate/capture"
	"floodgate/fair"
	"floodgate/ipv4"
	"floodgate/tap"
	"floodgate/top"
)

// TestWhoStaysActive: P5, 49.4 and 49.5.
func TestWhoStaysActive(t *testing.T) {
	held, shared := 0, 0
	for _, w := range onlyShares {
		every(80, w, func(seed int64, x api.Script) {
			tree := treeOf(x)
			l := moments(t, x, tree)
			for _, parent := range append(tree.IDs(), 0) {
				children := sharers(tree, parent)
				least, ok := linearAll(children)
				if !ok {
					continue
				}
				var slopes []uint64
				for _, c := range children {
					slopes = append(slopes, c.Ls.M1)
				}
				for _, b := range children {
					stretches(l, func(m moment) bool { return m.active[b.ID] > 0 }, func(m, n moment) {
						got := func(c api.Class) fair.Got {
							return fair.Got{Slope: c.Ls.M1, Bytes: n.picked[c.ID] - m.picked[c.ID]}
						}
						bytes := uint64(0)
						for _, a := range children {
							bytes += got(a).Bytes
							if a.ID != b.ID && !behind.Holds(got(a), got(b), x.Config.Lmax, least) {
								t.Fatal(seed, a.ID, b.ID, got(a), got(b))
							}
							held++
						}
						share, err := behind.Least(b.Ls.M1, slopes, bytes, x.Config.Lmax)
						if err != api.OK || got(b).Bytes < share {
							t.Fatal(seed, b.ID, got(b), share, err)
						}
						if share > 0 {
							shared++
						}
					})
				}
			}
		})
	}
	if held < 10000 || shared < 100 {
		t.Error(held, shared)
	}
}

// frames are datagrams, and others, as they come one behind the other.
func frames(r *rand.Rand, lmax int) []capture.Frame {
	var out []capture.Frame
	now := uint64(0)
	for range 1 + r.Intn(80) {
		now += uint64(r.Intn(3) * r.Intn(200))
		data := make([]byte, 1+r.Intn(lmax+lmax/8))
		r.Read(data)
		s := string(data)
		if r.Intn(3) > 0 {
			s, _ = ipv4.Encode(ipv4.Header{Proto: []uint8{6, 17, 1}[r.Intn(3)], Src: r.Uint32()}, s)
		}
		out = append(out, capture.Frame{At: now, Data: s})
	}
	return out
}

// wire is a setting out of a script: its classes, and rules that send frames anywhere.
func wire(r *rand.Rand, x api.Script) api.Script {
	l := treeOf(x).Leaves()
	o := api.Op{Kind: api.OpRules}
	for _, mask := range []uint16{0x0300, 0x1100, 0} {
		if len(l) > 0 {
			o.Rules = append(o.Rules, api.Rule{Mask: api.Header{mask}, Want: api.Header{mask & uint16(r.Uint32())}, Class: l[r.Intn(len(l))]})
		}
	}
	return api.Script{Config: x.Config, Ops: []api.Op{x.Ops[0], o}}
}

// TestTheWire: P1, 50.1 to 50.3.
func TestTheWire(t *testing.T) {
	sent, lost := 0, 0
	for i, w := range []wish{{shared: true, real: true, ops: 2}, {real: true, caps: true, ops: 2}} {
		every(150, w, func(seed int64, x api.Script) {
			r := rand.New(rand.NewSource(seed))
			x = wire(r, x)
			in := frames(r, x.Config.Lmax)
			bytes, all := 0, uint64(0)
			for _, f := range in {
				bytes += len(f.Data)
			}
			all = uint64(bytes * x.Config.T)
			ticks := all + uint64(r.Intn(3))
			s, _ := capture.Encode(in)
			told, err := tap.Play(x, s, ticks)
			if err != api.OK || told.Came != len(in) {
				t.Fatal(seed, told, err)
			}
			out, err := capture.Decode(told.Out)
			if err != api.OK || len(out) != told.Sent || told.Sent > told.Taken {
				t.Fatal(seed, err)
			}
			last := uint64(0)
			rest := slices.Clone(in)
			for _, f := range out {
				at := slices.IndexFunc(rest, func(g capture.Frame) bool { return g.Data == f.Data && g.At+uint64(len(g.Data)*x.Config.T) <= f.At })
				if at < 0 || f.At == last {
					t.Fatal(seed, f.At)
				}
				rest, last = slices.Delete(rest, at, at+1), f.At
			}
			if i == 0 && told.Sent != told.Taken {
				t.Fatal(seed, told)
			}
			sent += told.Sent
			lost += told.Came - told.Taken
			// the same as a script
			ops, _ := capture.Ops(in, x.Config.Lmax)
			y := api.Script{Config: x.Config, Ops: append(append(slices.Clone(x.Ops), ops...), api.Op{Kind: api.OpAdvance, Ticks: ticks})}
			o, _ := top.Run(y)
			clock := in[len(in)-1].At + ticks
			done := slices.DeleteFunc(o.Events, func(e api.Event) bool { return e.In || e.Done > clock })
			if want := capture.Sent(in, done); !slices.Equal(want, out) {
				t.Fatal(seed)
			}
		})
	}
	if sent < 500 || lost < 500 {
		t.Error(sent, lost)
	}
}
