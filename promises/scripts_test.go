package promises

import (
	"math/rand"

	"floodgate/api"
	"floodgate/curve"
)

// wish is what a script that is made up may have.
type wish struct {
	real, caps bool
	// shared: every leaf Shares
	shared bool
	// straight: all link-share curves are linear
	straight bool
	// wild: bad operations, and changes later on
	wild bool
	ops  int
}

func slope(r *rand.Rand, most uint64) uint64 { return 1 + uint64(r.Int63n(int64(max(most, 1)))) }

func linear(m uint64) api.Curve { return api.Curve{M1: m, M2: m} }

// kinked is a linear or concave curve with slopes up to most.
func kinked(r *rand.Rand, most uint64, straight bool) api.Curve {
	m := slope(r, most)
	if straight || most < 2 || r.Intn(2) == 0 {
		return linear(m)
	}
	low := uint64(r.Int63n(int64(m)))
	return api.Curve{M1: m, D: slope(r, 500), M2: low}
}

func falling(r *rand.Rand, most uint64) api.Curve {
	c := kinked(r, most, r.Intn(3) == 0)
	if r.Intn(3) == 0 {
		return api.Curve{D: slope(r, 500), M2: slope(r, most)}
	}
	return c
}

// rising is a link-share curve, or an upper limit: its last slope is never 0, so that packets are sent some day.
func rising(r *rand.Rand, most uint64, straight bool) api.Curve {
	c := kinked(r, most, straight)
	if c.D > 0 && c.M2 == 0 {
		c.M1, c.M2 = c.M1+1, 1
	}
	return c
}

func someClass(r *rand.Rand, w wish, t int, id int, parents []int, sharing map[int]int, room uint64) api.Class {
	c := api.Class{ID: id, Parent: parents[r.Intn(len(parents))], Leaf: r.Intn(3) > 0}
	_, above := sharing[c.Parent]
	shares := above && (w.shared || !w.real || r.Intn(4) > 0)
	if shares {
		c.Ls = rising(r, uint64(1)<<(4+r.Intn(20)), w.straight)
	}
	if w.caps && shares && r.Intn(3) == 0 {
		c.Ul = rising(r, curve.Scale(t)*2, false)
	}
	if c.Leaf {
		c.Pkts, c.Bytes = 1+r.Intn(8), 1+r.Intn(4000)
		if w.real && (r.Intn(2) == 0 || !shares) && room > 0 {
			c.Rt = falling(r, room)
		}
		if c.Rt == (api.Curve{}) && !shares {
			c.Ls = linear(1)
		}
	}
	return c
}

// classes are changes that add a tree.
func classes(r *rand.Rand, w wish, t int) []api.Change {
	n := 1 + r.Intn(9)
	room := curve.Scale(t) / uint64(n)
	parents, sharing := []int{0}, map[int]int{0: 1}
	var out []api.Change
	for id := 1; id <= n; id++ {
		c := someClass(r, w, t, id, parents, sharing, room)
		out = append(out, api.Change{Kind: api.ChAdd, Class: c})
		if !c.Leaf {
			parents = append(parents, id)
			if c.Ls != (api.Curve{}) {
				sharing[id] = 1
			} else if w.shared || !w.real {
				parents = parents[:len(parents)-1]
			}
		}
	}
	return out
}

// allRules send a packet to the class of its first number.
func allRules(n int) []api.Rule {
	var out []api.Rule
	for id := 1; id <= n; id++ {
		out = append(out, api.Rule{Mask: api.Header{0xffff}, Want: api.Header{uint16(id)}, Class: id})
	}
	return out
}

func wildOp(r *rand.Rand, x api.Script, w wish, n int) api.Op {
	switch r.Intn(9) {
	case 0:
		return api.Op{Kind: r.Intn(9) - 2, Ticks: 7, Packet: api.Packet{Len: 5}}
	case 1:
		return api.Op{Kind: api.OpAdvance, Ticks: []uint64{0, 1 << 61, 1 << 62, 1 << 63, 1<<64 - 1}[r.Intn(5)]}
	case 2:
		return api.Op{Kind: api.OpPacket, Packet: api.Packet{ID: r.Uint64(), Len: []int{-1, 0, x.Config.Lmax + 1, 1 << 40}[r.Intn(4)], Head: api.Header{uint16(1 + r.Intn(n))}}}
	case 3:
		return api.Op{Kind: api.OpRules, Rules: []api.Rule{{Class: 1 + r.Intn(n)}}}
	case 4:
		return api.Op{Kind: api.OpRules, Rules: []api.Rule{{Class: r.Intn(2), Want: api.Header{uint16(r.Intn(2))}}}}
	case 5:
		return api.Op{Kind: api.OpRules, Rules: allRules(n)}
	}
	c := someClass(r, w, x.Config.T, 1+r.Intn(n+1), []int{0, r.Intn(n + 1)}, map[int]int{0: 1, 1: 1}, curve.Scale(x.Config.T)/3)
	kind := 1 + r.Intn(3)
	for _, y := range x.Ops[0].Changes {
		if y.Class.ID == c.ID && kind == api.ChSet && r.Intn(3) > 0 {
			c.Parent, c.Leaf, c.Pkts, c.Bytes = y.Class.Parent, y.Class.Leaf, y.Class.Pkts, y.Class.Bytes
		}
	}
	return api.Op{Kind: api.OpChange, Changes: []api.Change{{Kind: kind, Class: c}}}
}

// made is a script that is made up of a seed; its classes are added in its first operation, and changed later only if it is wild.
func made(seed int64, w wish) api.Script {
	r := rand.New(rand.NewSource(seed))
	x := api.Script{Config: api.Config{T: []int{1, 1, 2, 3, 7, 100}[r.Intn(6)], Lmax: 1 + r.Intn(400)}}
	add := classes(r, w, x.Config.T)
	n := len(add)
	x.Ops = []api.Op{{Kind: api.OpChange, Changes: add}, {Kind: api.OpRules, Rules: allRules(n)}}
	burst := 1 + r.Intn(6)
	for len(x.Ops) < w.ops {
		switch {
		case w.wild && r.Intn(12) == 0:
			x.Ops = append(x.Ops, wildOp(r, x, w, n))
		case r.Intn(burst+2) > 1:
			p := api.Packet{ID: uint64(len(x.Ops)), Len: 1 + r.Intn(x.Config.Lmax), Head: api.Header{uint16(1 + r.Intn(n)), uint16(r.Intn(3))}}
			x.Ops = append(x.Ops, api.Op{Kind: api.OpPacket, Packet: p})
		default:
			most := x.Config.Lmax * x.Config.T * (1 + r.Intn(6))
			x.Ops = append(x.Ops, api.Op{Kind: api.OpAdvance, Ticks: uint64(r.Intn(most + 1))})
		}
	}
	return x
}

// every goes through scripts of a kind.
func every(many int, w wish, do func(seed int64, x api.Script)) {
	for seed := range int64(many) {
		do(seed, made(seed, w))
	}
}
