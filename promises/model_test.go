// Package promises holds the program against a model of lists and exact numbers, and against what is promised of the whole.
package promises

import (
	"math/big"
	"slices"

	"floodgate/api"
	"floodgate/core"
	"floodgate/hier"
	"floodgate/line"
	"floodgate/lines"
	"floodgate/pktq"
	"floodgate/real"
	"floodgate/share"
	"floodgate/spec"
	"floodgate/trans"
	"floodgate/upper"
	"floodgate/wide"
)

func exact(v uint64) *big.Int { return new(big.Int).SetUint64(v) }

func inUnits(bytes uint64) *big.Int { return new(big.Int).Mul(exact(bytes), exact(api.Unit)) }

var never = exact(api.Never)

// mline is a line of exact numbers.
type mline struct {
	x uint64
	y *big.Int
	m uint64
}

func (l mline) at(x uint64) *big.Int {
	if x <= l.x {
		return l.y
	}
	up := new(big.Int).Mul(exact(l.m), exact(x-l.x))
	return up.Add(up, l.y)
}

func (l mline) reach(w *big.Int) uint64 {
	if w.Cmp(l.y) <= 0 {
		return 0
	}
	if l.m == 0 {
		return api.Never
	}
	rest := new(big.Int).Sub(w, l.y)
	rest.Add(rest, exact(l.m-1))
	rest.Div(rest, exact(l.m))
	rest.Add(rest, exact(l.x))
	if rest.Cmp(never) >= 0 {
		return api.Never
	}
	return rest.Uint64()
}

// mrun is a run: the line Then, and First, if it has both.
type mrun []mline

func mstart(c api.Curve, x uint64, y *big.Int, ready bool) mrun {
	switch {
	case c.M1 > c.M2:
		up := new(big.Int).Mul(exact(c.M1-c.M2), exact(c.D))
		return mrun{{x, up.Add(up, y), c.M2}, {x, y, c.M1}}
	case c.M1 == 0 && !ready:
		return mrun{{x + c.D, y, c.M2}}
	}
	return mrun{{x, y, c.M2}}
}

func (a mrun) meet(b mrun) mrun {
	var out mrun
	for i, l := range a {
		x := max(l.x, b[i].x)
		if b[i].at(x).Cmp(l.at(x)) < 0 {
			l = b[i]
		}
		out = append(out, l)
	}
	return out
}

func (a mrun) reach(w *big.Int) uint64 {
	tick := uint64(0)
	for _, l := range a {
		tick = max(tick, l.reach(w))
	}
	return tick
}

// plain is a run as the program has it.
func (a mrun) plain() lines.Run {
	var out lines.Run
	for i, l := range a {
		y := wide.Num{Hi: new(big.Int).Rsh(l.y, 64).Uint64(), Lo: new(big.Int).And(l.y, exact(1<<64-1)).Uint64()}
		one := line.Line{X: l.x, Y: y, M: l.m}
		if i == 0 {
			out.Then = one
		} else {
			out.First, out.Both = one, true
		}
	}
	return out
}

// mclass is what a class of the model has.
type mclass struct {
	c     api.Class
	q     []api.Packet
	count pktq.Counts
	total uint64

	deadlines, readies mrun
	picked             uint64
	eligible, deadline uint64

	run  mrun
	time uint64

	limit mrun
	fit   uint64
}

// model is a scheduler of lists and exact numbers.
type model struct {
	link            api.Config
	tree            *hier.Tree
	classes         map[int]*mclass
	clock, accepted uint64
}

func newModel(c api.Config) *model {
	return &model{link: c, tree: hier.New(), classes: map[int]*mclass{}}
}

func (m *model) shares(id int) bool { return id == 0 || spec.Shares(m.classes[id].c) }

// active goes through the leaves below.
func (m *model) active(id int) bool {
	if !m.shares(id) {
		return false
	}
	if id != 0 && m.classes[id].c.Leaf {
		return len(m.classes[id].q) > 0
	}
	return slices.ContainsFunc(m.tree.Children(id), m.active)
}

func (m *model) fits(id int) uint64 {
	x := m.classes[id]
	if x.c.Leaf || !m.active(id) {
		return x.fit
	}
	least := uint64(api.Never)
	for _, child := range m.tree.Children(id) {
		if m.active(child) {
			least = min(least, m.fits(child))
		}
	}
	return max(x.fit, least)
}

func (x *mclass) learn() {
	x.eligible, x.deadline = api.Never, api.Never
	if len(x.q) > 0 {
		x.eligible = x.readies.reach(inUnits(x.picked))
		x.deadline = x.deadlines.reach(inUnits(x.picked + uint64(x.q[0].Len)))
	}
}

func (x *mclass) virtual() {
	x.time = x.run.reach(inUnits(x.total))
	for _, l := range x.run {
		x.time = max(x.time, l.x)
	}
}

func bytesOf(l []api.Packet) int {
	n := 0
	for _, p := range l {
		n += p.Len
	}
	return n
}

func (m *model) put(now uint64, class int, p api.Packet) api.Errno {
	if now < m.clock || now > api.MaxClock {
		return api.ErrClock
	}
	m.clock = now
	x, ok := m.classes[class]
	switch {
	case !ok:
		return api.ErrClass
	case !x.c.Leaf:
		return api.ErrLeaf
	case p.Len < 1 || p.Len > m.link.Lmax:
		return api.ErrLen
	case m.accepted+uint64(p.Len) > api.MaxBytes:
		return api.ErrBytes
	case len(x.q) == x.c.Pkts || bytesOf(x.q)+p.Len > x.c.Bytes:
		x.count.Drops++
		x.count.BytesDrops += uint64(p.Len)
		return api.ErrDrop
	}
	was := map[int]int{}
	for id := range m.classes {
		if m.active(id) {
			was[id] = 1
		}
	}
	x.q = append(x.q, p)
	x.count.In++
	x.count.BytesIn += uint64(p.Len)
	m.accepted += uint64(p.Len)
	if len(x.q) == 1 && spec.Real(x.c) {
		a, b := mstart(x.c.Rt, now, inUnits(x.picked), false), mstart(x.c.Rt, now, inUnits(x.picked), true)
		if x.deadlines != nil {
			a, b = x.deadlines.meet(a), x.readies.meet(b)
		}
		x.deadlines, x.readies = a, b
		x.learn()
	}
	for _, id := range m.tree.Up(class) {
		if m.active(id) && was[id] == 0 {
			m.awake(id, now, was)
		}
	}
	return api.OK
}

func (m *model) awake(id int, now uint64, was map[int]int) {
	x := m.classes[id]
	low, has := uint64(0), false
	for _, other := range m.tree.Children(x.c.Parent) {
		if was[other] > 0 && (!has || m.classes[other].time < low) {
			low, has = m.classes[other].time, true
		}
	}
	run := mstart(x.c.Ls, low, inUnits(x.total), false)
	if x.run != nil {
		run = x.run.meet(run)
	}
	x.run = run
	x.virtual()
	if spec.Capped(x.c) {
		run := mstart(x.c.Ul, now, inUnits(x.total), false)
		if x.limit != nil {
			run = x.limit.meet(run)
		}
		x.limit = run
		x.fit = run.reach(inUnits(x.total))
	}
}

// choose is the leaf that is picked at a tick.
func (m *model) choose(now uint64) (leaf int, byReal, ok bool) {
	for _, id := range m.tree.Leaves() {
		x := m.classes[id]
		if spec.Real(x.c) && len(x.q) > 0 && x.eligible <= now && x.eligible < api.Never && (!ok || x.deadline < m.classes[leaf].deadline) {
			leaf, byReal, ok = id, true, true
		}
	}
	if ok {
		return
	}
	for at := 0; ; at = leaf {
		has := false
		for _, id := range m.tree.Children(at) {
			if m.active(id) && m.fits(id) <= now && m.fits(id) < api.Never && (!has || m.classes[id].time < m.classes[leaf].time) {
				leaf, has = id, true
			}
		}
		if !has {
			return 0, false, false
		}
		if m.classes[leaf].c.Leaf {
			return leaf, false, true
		}
	}
}

func (m *model) take(now uint64) (core.Pick, bool) {
	if now < m.clock || now > api.MaxClock {
		return core.Pick{}, false
	}
	m.clock = now
	leaf, byReal, ok := m.choose(now)
	if !ok {
		return core.Pick{}, false
	}
	x := m.classes[leaf]
	way := append(m.tree.Up(leaf), 0)
	var was []int
	for _, id := range way {
		if m.active(id) {
			was = append(was, id)
		}
	}
	p := x.q[0]
	x.q = slices.Clone(x.q[1:])
	x.count.Out++
	x.count.BytesOut += uint64(p.Len)
	for _, id := range m.tree.Up(leaf) {
		y := m.classes[id]
		y.total += uint64(p.Len)
		if y.run != nil {
			y.virtual()
		}
		if y.limit != nil {
			y.fit = y.limit.reach(inUnits(y.total))
		}
	}
	if spec.Real(x.c) {
		if byReal {
			x.picked += uint64(p.Len)
		}
		x.learn()
	}
	for _, id := range was {
		if !m.active(id) {
			for _, child := range m.tree.Children(id) {
				m.classes[child].run, m.classes[child].time = nil, 0
			}
		}
	}
	return core.Pick{Class: leaf, Packet: p, Real: byReal}, true
}

func (m *model) due() uint64 {
	least := uint64(api.Never)
	for id, x := range m.classes {
		if spec.Real(x.c) && len(x.q) > 0 {
			least = min(least, x.eligible)
		}
		if x.c.Parent == 0 && m.active(id) {
			least = min(least, m.fits(id))
		}
	}
	return least
}

func (m *model) change(idle bool, l []api.Change) (int, api.Errno) {
	tree, place, err := trans.Apply(m.tree, m.link.T, l)
	if err != api.OK {
		return place, err
	}
	touched := trans.Touched(m.tree, tree)
	any := false
	for _, id := range m.tree.Leaves() {
		if len(m.classes[id].q) == 0 {
			continue
		}
		any = true
		for _, up := range m.tree.Up(id) {
			if slices.Contains(touched, up) {
				return 0, api.ErrBusy
			}
		}
	}
	if trans.Reals(m.tree, tree) && (any || !idle) {
		return 0, api.ErrBusy
	}
	for _, id := range touched {
		delete(m.classes, id)
		if c, err := tree.Get(id); err == api.OK {
			m.classes[id] = &mclass{c: c}
		}
	}
	m.tree = tree
	return 0, api.OK
}

// info is what the program tells of a class.
func (m *model) info(id int) core.Info {
	x := m.classes[id]
	out := core.Info{Class: x.c, Active: m.active(id), Total: x.total, Fit: m.fits(id), Counts: x.count}
	if x.deadlines != nil {
		out.Dues = real.Leaf{Has: true, Deadlines: x.deadlines.plain(), Readies: x.readies.plain(), Picked: x.picked, Eligible: x.eligible, Deadline: x.deadline}
	}
	if x.run != nil {
		out.Share = share.Child{Has: true, Run: x.run.plain(), Time: x.time}
	}
	if x.limit != nil {
		out.Limit = upper.Cap{Has: true, Run: x.limit.plain(), Fit: x.fit}
	}
	return out
}
