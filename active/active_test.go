package active

import (
	"math/rand"
	"slices"
	"testing"

	"floodgate/api"
	"floodgate/hier"
	"floodgate/spec"
)

var linear = api.Curve{M1: 5, M2: 5}

func leaf(id, parent int) api.Class {
	return api.Class{ID: id, Parent: parent, Leaf: true, Ls: linear, Pkts: 2, Bytes: 200}
}

func inner(id, parent int) api.Class { return api.Class{ID: id, Parent: parent, Ls: linear} }

func tree(l ...api.Class) *hier.Tree {
	t := hier.New()
	for _, c := range l {
		t.Add(c)
	}
	return t
}

func TestExample(t *testing.T) {
	x := tree(inner(1, 0), leaf(2, 1), leaf(3, 1))
	s := New(x)
	if s.Is(0) || s.Is(1) || len(s.All()) != 0 {
		t.Error("not all are passive")
	}
	hold := func(want ...int) func([]int, api.Errno) {
		return func(got []int, e api.Errno) {
			t.Helper()
			if !slices.Equal(got, want) || e != api.OK {
				t.Error(got, e, want)
			}
		}
	}
	hold(2, 1)(s.On(2))
	hold(3)(s.On(3))
	if !s.Is(0) || !s.Is(1) || !slices.Equal(s.Children(1), []int{2, 3}) || !slices.Equal(s.Children(0), []int{1}) || !slices.Equal(s.All(), []int{1, 2, 3}) {
		t.Error(s.All())
	}
	hold(2)(s.Off(2))
	if s.Is(2) || !s.Is(3) || !s.Is(1) {
		t.Error(s.All())
	}
	hold(3, 1)(s.Off(3))
	if s.Is(0) || s.Is(1) || len(s.All()) != 0 || len(s.Children(0)) != 0 || len(s.Children(1)) != 0 {
		t.Error(s.All())
	}
	// what becomes of the tree later changes nothing
	x.Del(2)
	hold(2, 1)(s.On(2))
}

func TestErrors(t *testing.T) {
	plain := leaf(4, 0)
	plain.Rt, plain.Ls = linear, api.Curve{}
	s := New(tree(inner(1, 0), leaf(2, 1), plain))
	for i, c := range []struct {
		id      int
		on, off api.Errno
	}{{0, api.ErrNone, api.ErrNone}, {1, api.ErrNone, api.ErrNone}, {4, api.ErrNone, api.ErrNone}, {9, api.ErrNone, api.ErrNone}, {-1, api.ErrNone, api.ErrNone}} {
		l, e := s.On(c.id)
		m, f := s.Off(c.id)
		if len(l)+len(m) != 0 || e != c.on || f != c.off || s.Is(c.id) {
			t.Error(i, l, e, m, f)
		}
	}
	s.On(2)
	if l, e := s.On(2); len(l) != 0 || e != api.ErrSame {
		t.Error(l, e)
	}
	// an inner class that is active is no leaf all the same
	if l, e := s.Off(1); len(l) != 0 || e != api.ErrNone || !s.Is(2) {
		t.Error(l, e)
	}
	if _, e := s.On(1); e != api.ErrNone {
		t.Error(e)
	}
	s.Off(2)
	if l, e := s.Off(2); len(l) != 0 || e != api.ErrNone {
		t.Error(l, e)
	}
}

func TestNil(t *testing.T) {
	var s *Set
	if l, e := s.On(1); len(l) != 0 || e != api.ErrState {
		t.Error(l, e)
	}
	if l, e := s.Off(1); len(l) != 0 || e != api.ErrState || s.Is(0) || s.Is(1) || len(s.Children(0)) != 0 || len(s.All()) != 0 {
		t.Error(l, e)
	}
	for _, s := range []*Set{New(nil), {}} {
		if _, e := s.On(1); e != api.ErrNone || s.Is(0) {
			t.Error(e)
		}
	}
}

func random(r *rand.Rand) *hier.Tree {
	t := hier.New()
	for range 40 {
		c := inner(1+r.Intn(20), r.Intn(20))
		if r.Intn(2) == 0 {
			c = leaf(c.ID, c.Parent)
			if r.Intn(4) == 0 {
				c.Rt, c.Ls = linear, api.Curve{}
			}
		}
		t.Add(c)
	}
	return t
}

// TestAgainstTheTree: 23.1 to 23.4.
func TestAgainstTheTree(t *testing.T) {
	r := rand.New(rand.NewSource(26))
	for range 300 {
		x := random(r)
		s := New(x)
		on := map[int]int{}
		is := func(id int) bool {
			return slices.ContainsFunc(x.Leaves(), func(l int) bool {
				return on[l] > 0 && (id == 0 || slices.Contains(x.Up(l), id))
			})
		}
		for range 40 {
			id := r.Intn(21)
			c, _ := x.Get(id)
			may := c.Leaf && spec.Shares(c)
			before := s.All()
			if r.Intn(2) == 0 {
				was := on[id]
				if may {
					on[id] = 1
				}
				l, e := s.On(id)
				want := slices.DeleteFunc(x.Up(id), func(up int) bool { return !may || slices.Contains(before, up) })
				if !slices.Equal(l, want) || (e == api.OK) != (may && was == 0) || (e == api.ErrSame) != (may && was > 0) {
					t.Fatal(l, e, want)
				}
				if e == api.OK && r.Intn(2) == 0 {
					back, e := s.Off(id)
					if !slices.Equal(back, l) || e != api.OK || !slices.Equal(s.All(), before) {
						t.Fatal(back, l)
					}
					on[id] = 0
				}
			} else {
				was := on[id]
				on[id] = 0
				l, e := s.Off(id)
				want := slices.DeleteFunc(x.Up(id), func(up int) bool { return was == 0 || is(up) })
				if !slices.Equal(l, want) || (e == api.OK) != (was > 0) {
					t.Fatal(l, e, want)
				}
			}
			var all []int
			for _, id := range append(x.IDs(), 0) {
				if s.Is(id) != is(id) {
					t.Fatal(id, s.Is(id))
				}
				if id != 0 && is(id) {
					all = append(all, id)
				}
				children := slices.DeleteFunc(x.Children(id), func(c int) bool { return !is(c) })
				if !slices.Equal(s.Children(id), children) {
					t.Fatal(id, s.Children(id), children)
				}
			}
			if !slices.Equal(s.All(), all) {
				t.Fatal(s.All(), all)
			}
		}
	}
}
