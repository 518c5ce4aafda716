package hier

import (
	"math/rand"
	"slices"
	"testing"

	"floodgate/api"
	"floodgate/spec"
)

var linear = api.Curve{M1: 5, M2: 5}

func leaf(id, parent int) api.Class {
	return api.Class{ID: id, Parent: parent, Leaf: true, Ls: linear, Pkts: 2, Bytes: 200}
}

func inner(id, parent int) api.Class { return api.Class{ID: id, Parent: parent, Ls: linear} }

// plain is a class that does not share.
func plain(c api.Class) api.Class {
	c.Ls = api.Curve{}
	if c.Leaf {
		c.Rt = linear
	}
	return c
}

func build(t *testing.T, l ...api.Class) *Tree {
	t.Helper()
	x := New()
	for _, c := range l {
		if e := x.Add(c); e != api.OK {
			t.Fatal(c, e)
		}
	}
	return x
}

func TestExample(t *testing.T) {
	x := build(t, inner(1, 0), leaf(2, 1))
	if !slices.Equal(x.Up(2), []int{2, 1}) || x.Depth(2) != 2 || x.Depth(1) != 1 || x.Depth(0) != 0 || x.Depth(9) != 0 || len(x.Up(0)) != 0 || len(x.Up(9)) != 0 {
		t.Error(x.Up(2), x.Depth(2))
	}
	if !slices.Equal(x.Children(0), []int{1}) || !slices.Equal(x.Children(1), []int{2}) || len(x.Children(2)) != 0 || len(x.Children(9)) != 0 {
		t.Error(x.Children(0), x.Children(1))
	}
}

func TestAdd(t *testing.T) {
	x := build(t, inner(1, 0), leaf(2, 1), plain(inner(3, 0)), plain(leaf(4, 1)))
	for i, c := range []struct {
		c    api.Class
		want api.Errno
	}{
		{api.Class{ID: 0}, api.ErrArg}, {api.Class{ID: 2, Ls: api.Curve{M1: 1}}, api.ErrCurve}, {api.Class{ID: 2, Leaf: true}, api.ErrLeaf},
		{leaf(2, 9), api.ErrSame}, {leaf(5, 9), api.ErrClass}, {leaf(5, 2), api.ErrClass}, {leaf(5, 3), api.ErrLeaf}, {plain(leaf(5, 3)), api.OK}, {inner(6, 1), api.OK}, {plain(inner(7, 3)), api.OK}, {inner(8, 7), api.ErrLeaf},
	} {
		if e := x.Add(c.c); e != c.want {
			t.Errorf("%d: %v", i, e)
		}
	}
	for id := 100; len(x.IDs()) < api.MaxClasses; id++ {
		if e := x.Add(leaf(id, 0)); e != api.OK {
			t.Fatal(e)
		}
	}
	if x.Add(leaf(99, 44)) != api.ErrFull || x.Add(leaf(100, 0)) != api.ErrSame || len(x.IDs()) != api.MaxClasses {
		t.Error("one class more than has room")
	}
}

func TestDepth(t *testing.T) {
	x := New()
	for id := 1; id <= api.MaxDepth; id++ {
		if e := x.Add(inner(id, id-1)); e != api.OK {
			t.Fatal(id, e)
		}
	}
	if x.Depth(api.MaxDepth) != api.MaxDepth || x.Add(leaf(50, api.MaxDepth)) != api.ErrDepth || x.Add(leaf(50, api.MaxDepth-1)) != api.OK {
		t.Error("depth")
	}
	if x.Add(api.Class{ID: 51, Parent: 50, Ls: linear}) != api.ErrClass {
		t.Error("below a leaf")
	}
	// a class that shares below one that does not comes ahead of the depth
	x.Set(plain(inner(1, 0)))
	if x.Set(plain(inner(1, 0))) != api.ErrLeaf {
		t.Error("a child shares")
	}
}

func TestDelAndSet(t *testing.T) {
	x := build(t, inner(1, 0), leaf(2, 1), plain(inner(3, 0)), plain(leaf(4, 3)))
	for i, c := range []struct {
		id   int
		want api.Errno
	}{{0, api.ErrNone}, {9, api.ErrNone}, {-1, api.ErrNone}, {1, api.ErrClass}, {3, api.ErrClass}} {
		if e := x.Del(c.id); e != c.want {
			t.Errorf("%d: %v", i, e)
		}
	}
	wide := leaf(2, 1)
	wide.Pkts = 7
	for i, c := range []struct {
		c    api.Class
		want api.Errno
	}{
		{api.Class{ID: 0}, api.ErrArg}, {api.Class{ID: 9, Ls: api.Curve{M1: 1}}, api.ErrCurve}, {leaf(9, 1), api.ErrNone}, {leaf(2, 0), api.ErrArg}, {inner(2, 1), api.ErrArg}, {leaf(1, 0), api.ErrArg},
		{leaf(4, 3), api.ErrLeaf}, {plain(inner(1, 0)), api.ErrLeaf}, {wide, api.OK}, {plain(leaf(2, 1)), api.OK}, {plain(inner(1, 0)), api.OK}, {leaf(2, 1), api.ErrLeaf}, {inner(1, 0), api.OK}, {leaf(2, 1), api.OK},
	} {
		before := x.Copy()
		if e := x.Set(c.c); e != c.want {
			t.Errorf("%d: %v", i, e)
		}
		if got, e := x.Get(c.c.ID); c.want == api.OK && got != c.c {
			t.Errorf("%d: %v, %v", i, got, e)
		}
		if c.want != api.OK {
			for _, id := range before.IDs() {
				a, _ := before.Get(id)
				if b, _ := x.Get(id); a != b {
					t.Errorf("%d: class %d is changed", i, id)
				}
			}
		}
	}
	if x.Del(2) != api.OK || x.Del(2) != api.ErrNone || x.Del(1) != api.OK || !slices.Equal(x.IDs(), []int{3, 4}) {
		t.Error(x.IDs())
	}
}

func TestNilAndEmpty(t *testing.T) {
	var x *Tree
	if x.Add(api.Class{}) != api.ErrState || x.Del(1) != api.ErrState || x.Set(api.Class{}) != api.ErrState || x.Copy() != nil {
		t.Error("nil")
	}
	if c, e := x.Get(1); c != (api.Class{}) || e != api.ErrState || len(x.Children(0)) != 0 || len(x.IDs()) != 0 || len(x.Leaves()) != 0 || x.Depth(1) != 0 || len(x.Up(1)) != 0 || len(x.Reals()) != 0 {
		t.Error(c, e)
	}
	if x = new(Tree); x.Add(leaf(1, 0)) != api.OK || len(x.Copy().IDs()) != 1 {
		t.Error("an empty tree")
	}
	if c, e := x.Get(0); c != (api.Class{}) || e != api.ErrNone {
		t.Error(c, e)
	}
}

func TestListsAndCopies(t *testing.T) {
	a, b := leaf(7, 1), leaf(2, 0)
	a.Rt, b.Rt = api.Curve{M1: 1, M2: 1}, api.Curve{D: 2, M2: 3}
	x := build(t, inner(1, 0), a, b, leaf(5, 1), inner(9, 0))
	if !slices.Equal(x.IDs(), []int{1, 2, 5, 7, 9}) || !slices.Equal(x.Leaves(), []int{2, 5, 7}) || !slices.Equal(x.Reals(), []api.Curve{b.Rt, a.Rt}) || !slices.Equal(x.Children(0), []int{1, 2, 9}) || !slices.Equal(x.Children(1), []int{5, 7}) {
		t.Error(x.IDs(), x.Leaves(), x.Reals())
	}
	y := x.Copy()
	y.Del(5)
	x.Del(2)
	if !slices.Equal(x.IDs(), []int{1, 5, 7, 9}) || !slices.Equal(y.IDs(), []int{1, 2, 7, 9}) {
		t.Error("a copy shares memory")
	}
}

// TestLaidRight: 18.4.
func TestLaidRight(t *testing.T) {
	r := rand.New(rand.NewSource(21))
	for range 100 {
		x := New()
		for range 200 {
			c := inner(1+r.Intn(30), r.Intn(30))
			if r.Intn(2) == 0 {
				c = leaf(c.ID, c.Parent)
			}
			if r.Intn(3) == 0 {
				c = plain(c)
			}
			[]func(){func() { x.Add(c) }, func() { x.Add(c) }, func() { x.Del(c.ID) }, func() { x.Set(c) }}[r.Intn(4)]()
		}
		for _, id := range x.IDs() {
			c, _ := x.Get(id)
			p, e := x.Get(c.Parent)
			if c.Parent != 0 && (e != api.OK || p.Leaf || spec.Shares(c) && !spec.Shares(p)) {
				t.Fatalf("%v is not laid right", c)
			}
			up := x.Up(id)
			if last, _ := x.Get(up[len(up)-1]); last.Parent != 0 || x.Depth(id) > api.MaxDepth || x.Depth(id) != len(up) {
				t.Fatal(up)
			}
		}
	}
}
