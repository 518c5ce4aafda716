package core

import (
	"slices"
	"testing"

	"floodgate/api"
)

func linear(m uint64) api.Curve { return api.Curve{M1: m, M2: m} }

func leaf(id, parent int, ls uint64) api.Class {
	return api.Class{ID: id, Parent: parent, Leaf: true, Ls: linear(ls), Pkts: 8, Bytes: 1000}
}

func inner(id, parent int) api.Class { return api.Class{ID: id, Parent: parent, Ls: linear(65536)} }

func add(c api.Class) api.Change { return api.Change{Kind: api.ChAdd, Class: c} }
func set(c api.Class) api.Change { return api.Change{Kind: api.ChSet, Class: c} }
func del(id int) api.Change      { return api.Change{Kind: api.ChDel, Class: api.Class{ID: id}} }

func build(t *testing.T, l ...api.Class) *Sched {
	t.Helper()
	s, err := New(api.Config{T: 1, Lmax: 100})
	if err != api.OK {
		t.Fatal(err)
	}
	for _, c := range l {
		if _, err := s.Change(true, []api.Change{add(c)}); err != api.OK {
			t.Fatal(c, err)
		}
	}
	return s
}

func put(t *testing.T, s *Sched, now uint64, class, n int) {
	t.Helper()
	if err := s.Put(now, class, api.Packet{ID: s.Accepted(), Len: n}); err != api.OK {
		t.Fatal(class, err)
	}
}

func picks(s *Sched, now uint64) []int {
	var out []int
	for p, ok := s.Take(now); ok; p, ok = s.Take(now) {
		out = append(out, p.Class)
	}
	return out
}

func TestNew(t *testing.T) {
	for _, c := range []api.Config{{}, {T: 0, Lmax: 1}, {T: api.MaxT + 1, Lmax: 1}, {T: -1, Lmax: 1}, {T: 1}, {T: 1, Lmax: -1}, {T: 1, Lmax: api.MaxLen + 1}} {
		if s, err := New(c); s != nil || err != api.ErrArg {
			t.Error(c, err)
		}
	}
	if _, err := New(api.Config{T: 1, Lmax: 1}); err != api.OK {
		t.Error(err)
	}
	c := api.Config{T: api.MaxT, Lmax: api.MaxLen}
	if s, err := New(c); err != api.OK || s.Config() != c || s.Due() != api.Never {
		t.Error(err)
	}
}

func TestExample(t *testing.T) {
	s := build(t, leaf(1, 0, 65536), leaf(2, 0, 2*65536))
	for range 3 {
		put(t, s, 0, 1, 100)
		put(t, s, 0, 2, 100)
	}
	s.Take(0)
	s.Take(0)
	one, _ := s.Get(1)
	two, _ := s.Get(2)
	if one.Share.Time != 100 || two.Share.Time != 50 {
		t.Error(one.Share, two.Share)
	}
	s.Take(0)
	one, _ = s.Get(1)
	two, _ = s.Get(2)
	if one.Share.Time != 100 || two.Share.Time != 100 || one.Total != 100 || two.Total != 200 {
		t.Error(one.Share, two.Share)
	}
	if l := picks(s, 0); !slices.Equal(l, []int{1, 2, 1}) {
		t.Error(l)
	}
}

// TestRealTime: a leaf of one byte every two ticks, that shares nothing.
func TestRealTime(t *testing.T) {
	c := leaf(1, 0, 0)
	c.Rt, c.Ls = linear(32768), api.Curve{}
	s := build(t, c)
	put(t, s, 5, 1, 100)
	put(t, s, 5, 1, 100)
	x, _ := s.Get(1)
	if x.Dues.Deadline != 205 || x.Dues.Eligible != 0 || x.Active || s.Due() != 0 {
		t.Error(x)
	}
	if p, ok := s.Take(5); !ok || !p.Real || p.Class != 1 {
		t.Error(p, ok)
	}
	if p, ok := s.Take(204); ok || p != (Pick{}) || s.Due() != 205 {
		t.Error(p, ok, s.Due())
	}
	if p, ok := s.Take(205); !ok || !p.Real || s.Due() != api.Never {
		t.Error(p, ok)
	}
	if x, _ := s.Get(1); x.Dues.Picked != 200 || x.Dues.Eligible != api.Never || x.Dues.Deadline != api.Never {
		t.Error(x)
	}
}

func TestLimit(t *testing.T) {
	c := inner(1, 0)
	c.Ul = linear(32768)
	s := build(t, c, leaf(2, 1, 5))
	put(t, s, 0, 2, 100)
	put(t, s, 0, 2, 100)
	if l := picks(s, 0); !slices.Equal(l, []int{2}) || s.Due() != 200 {
		t.Error(l, s.Due())
	}
	one, _ := s.Get(1)
	two, _ := s.Get(2)
	if one.Fit != 200 || one.Limit.Fit != 200 || two.Fit != 0 || !one.Active || !two.Active {
		t.Error(one, two)
	}
	if l := picks(s, 199); len(l) != 0 {
		t.Error(l)
	}
	if l := picks(s, 200); !slices.Equal(l, []int{2}) {
		t.Error(l)
	}
	// limits stay when classes become passive; shares of the children of what became passive do not
	one, _ = s.Get(1)
	two, _ = s.Get(2)
	if one.Fit != 400 || one.Active || one.Share.Has || two.Share.Has || !one.Limit.Has || one.Total != 200 {
		t.Error(one, two)
	}
}

func TestInnerFit(t *testing.T) {
	a, b := leaf(2, 1, 5), leaf(3, 1, 5)
	a.Ul, b.Ul = linear(32768), linear(6554)
	s := build(t, inner(1, 0), a, b)
	for range 2 {
		put(t, s, 0, 2, 100)
		put(t, s, 0, 3, 100)
	}
	picks(s, 0)
	one, _ := s.Get(1)
	if one.Fit != 200 || s.Due() != 200 {
		t.Error(one.Fit, s.Due())
	}
	picks(s, 200)
	one, _ = s.Get(1)
	three, _ := s.Get(3)
	if one.Fit != three.Fit || one.Fit < 990 {
		t.Error(one.Fit, three.Fit)
	}
}

func TestBusy(t *testing.T) {
	r := leaf(4, 0, 5)
	r.Rt = linear(1000)
	wide := leaf(2, 1, 9)
	s := build(t, inner(1, 0), leaf(2, 1, 5), leaf(3, 0, 5), r)
	put(t, s, 0, 2, 50)
	narrow := inner(1, 0)
	narrow.Ul = linear(7)
	slow := r
	slow.Rt = linear(999)
	for i, c := range []struct {
		idle bool
		l    []api.Change
		want api.Errno
	}{
		{true, []api.Change{set(wide)}, api.ErrBusy}, {true, []api.Change{set(narrow)}, api.ErrBusy}, {true, []api.Change{del(2)}, api.ErrBusy},
		{true, []api.Change{set(leaf(2, 1, 5)), set(inner(1, 0))}, api.OK}, {true, []api.Change{del(2), del(1), add(inner(1, 0)), add(leaf(2, 1, 5))}, api.OK},
		{true, []api.Change{del(2), add(leaf(2, 0, 5))}, api.ErrBusy}, {true, []api.Change{set(slow)}, api.ErrBusy}, {true, []api.Change{del(4)}, api.ErrBusy},
		{true, []api.Change{set(leaf(3, 0, 6))}, api.OK}, {false, []api.Change{set(leaf(3, 0, 7))}, api.OK}, {true, []api.Change{add(leaf(5, 1, 5)), del(3)}, api.OK},
	} {
		if p, e := s.Change(c.idle, c.l); p != 0 || e != c.want {
			t.Errorf("%d: %d, %v", i, p, e)
		}
	}
	if l := picks(s, 0); !slices.Equal(l, []int{2}) {
		t.Error(l)
	}
	if _, e := s.Change(false, []api.Change{set(slow)}); e != api.ErrBusy {
		t.Error(e)
	}
	if _, e := s.Change(true, []api.Change{set(slow), set(wide)}); e != api.OK {
		t.Error(e)
	}
	if p, e := s.Change(true, []api.Change{set(slow), set(leaf(9, 8, 9))}); p != 1 || e != api.ErrNone {
		t.Error(p, e)
	}
	if !slices.Equal(s.Tree().IDs(), []int{1, 2, 4, 5}) {
		t.Error(s.Tree().IDs())
	}
}

// TestFresh: what is touched is fresh, all else is as it was.
func TestFresh(t *testing.T) {
	s := build(t, leaf(1, 0, 5), leaf(2, 0, 5), leaf(3, 0, 5))
	for id := 1; id < 4; id++ {
		put(t, s, 0, id, 50)
	}
	put(t, s, 0, 3, 50)
	for range 3 {
		s.Take(0)
	}
	two, _ := s.Get(2)
	if !two.Share.Has || two.Total != 50 {
		t.Fatal(two)
	}
	if _, e := s.Change(false, []api.Change{set(leaf(1, 0, 7))}); e != api.OK {
		t.Fatal(e)
	}
	if x, _ := s.Get(1); x != (Info{Class: leaf(1, 0, 7)}) {
		t.Error(x)
	}
	if x, _ := s.Get(2); x != two {
		t.Error(x)
	}
	if x, _ := s.Get(3); !x.Active || len(s.Packets(3)) != 1 {
		t.Error(x)
	}
}

func TestPutErrors(t *testing.T) {
	s := build(t, inner(1, 0), leaf(2, 1, 5))
	p := api.Packet{Len: 100}
	s.Put(10, 2, api.Packet{Len: 1})
	for i, c := range []struct {
		now   uint64
		class int
		p     api.Packet
		want  api.Errno
	}{
		{9, 2, p, api.ErrClock}, {api.MaxClock + 1, 2, p, api.ErrClock}, {9, 77, api.Packet{}, api.ErrClock}, {10, 77, api.Packet{}, api.ErrClass}, {10, 0, api.Packet{}, api.ErrClass}, {10, -1, p, api.ErrClass},
		{10, 1, api.Packet{}, api.ErrLeaf}, {10, 2, api.Packet{}, api.ErrLen}, {10, 2, api.Packet{Len: -1}, api.ErrLen}, {10, 2, api.Packet{Len: 101}, api.ErrLen}, {10, 2, p, api.OK},
		{20, 77, p, api.ErrClass}, {19, 2, p, api.ErrClock},
	} {
		if e := s.Put(c.now, c.class, c.p); e != c.want {
			t.Errorf("%d: %v", i, e)
		}
	}
	for range 8 {
		s.Put(20, 2, p)
	}
	before := s.Accepted()
	if e := s.Put(20, 2, p); e != api.ErrDrop || s.Accepted() != before {
		t.Error(e)
	}
	x, _ := s.Get(2)
	if x.Counts.Drops != 3 || x.Counts.BytesDrops != 300 || x.Counts.In != 8 {
		t.Error(x.Counts)
	}
	s.Take(20)
	s.Take(20)
	s.accepted = api.MaxBytes - 99
	if e := s.Put(20, 2, p); e != api.ErrBytes {
		t.Error(e)
	}
	if e := s.Put(20, 2, api.Packet{Len: 99}); e != api.OK || s.Accepted() != api.MaxBytes {
		t.Error(e)
	}
	// the error of too many bytes comes ahead of that of a queue without room
	for range 9 {
		if e := s.Put(20, 2, api.Packet{Len: 1}); e != api.ErrBytes {
			t.Error(e)
		}
	}
}

func TestTakeAndTheClock(t *testing.T) {
	s := build(t, leaf(1, 0, 5))
	put(t, s, 7, 1, 5)
	for _, now := range []uint64{6, api.MaxClock + 1, 1<<64 - 1} {
		if p, ok := s.Take(now); ok || p != (Pick{}) {
			t.Error(now, p)
		}
	}
	if p, ok := s.Take(api.MaxClock); !ok || p.Class != 1 || p.Real {
		t.Error(p, ok)
	}
	if e := s.Put(8, 1, api.Packet{Len: 1}); e != api.ErrClock {
		t.Error(e)
	}
}

func TestNilAndEmpty(t *testing.T) {
	for _, s := range []*Sched{nil, {}} {
		if p, e := s.Change(true, nil); p != 0 || e != api.ErrState {
			t.Error(p, e)
		}
		want, none := api.ErrClass, api.ErrNone
		if s == nil {
			want, none = api.ErrState, api.ErrState
		}
		if e := s.Put(0, 1, api.Packet{Len: 1}); e != want {
			t.Error(e)
		}
		if x, e := s.Get(1); x != (Info{}) || e != none {
			t.Error(x, e)
		}
		p, ok := s.Take(0)
		a, b := s.Backlog()
		if ok || p != (Pick{}) || s.Due() != api.Never || len(s.Packets(1)) != 0 || a != 0 || b != 0 || s.Accepted() != 0 || s.Tree() != nil || s.Config() != (api.Config{}) {
			t.Error("what is told of nil")
		}
	}
	s := build(t, inner(1, 0), leaf(2, 1, 5))
	if x, e := s.Get(0); x != (Info{}) || e != api.ErrNone || len(s.Packets(0)) != 0 || len(s.Packets(1)) != 0 || len(s.Packets(2)) != 0 {
		t.Error(x, e)
	}
	s.Tree().Del(2)
	if _, e := s.Get(2); e != api.OK || len(s.Tree().IDs()) != 2 {
		t.Error("the tree that is told is what is kept")
	}
}
