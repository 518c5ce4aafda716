package trans

import (
	"math/rand"
	"slices"
	"testing"

	"floodgate/api"
	"floodgate/hier"
)

func linear(m uint64) api.Curve { return api.Curve{M1: m, M2: m} }

func leaf(id, parent int) api.Class {
	return api.Class{ID: id, Parent: parent, Leaf: true, Ls: linear(5), Pkts: 2, Bytes: 200}
}

func reals(id int, m uint64) api.Class {
	c := leaf(id, 0)
	c.Rt = linear(m)
	return c
}

func add(c api.Class) api.Change { return api.Change{Kind: api.ChAdd, Class: c} }
func set(c api.Class) api.Change { return api.Change{Kind: api.ChSet, Class: c} }
func del(id int) api.Change      { return api.Change{Kind: api.ChDel, Class: api.Class{ID: id, Pkts: -9}} }

func TestErrors(t *testing.T) {
	x := hier.New()
	x.Add(leaf(1, 0))
	for i, c := range []struct {
		t     *hier.Tree
		ticks int
		l     []api.Change
		place int
		want  api.Errno
	}{
		{nil, 0, make([]api.Change, 99), 0, api.ErrState}, {x, 0, make([]api.Change, 99), 0, api.ErrArg}, {x, -1, nil, 0, api.ErrArg}, {x, api.MaxT + 1, nil, 0, api.ErrArg},
		{x, 1, make([]api.Change, api.MaxChanges+1), 0, api.ErrLong}, {x, 1, make([]api.Change, api.MaxChanges), 0, api.ErrArg}, {x, api.MaxT, nil, 0, api.OK},
		{x, 1, []api.Change{add(leaf(2, 0)), add(leaf(2, 0))}, 1, api.ErrSame}, {x, 1, []api.Change{add(leaf(2, 0)), del(1), set(leaf(2, 0)), del(1)}, 3, api.ErrNone},
		{x, 1, []api.Change{add(leaf(2, 0)), {Kind: 4, Class: leaf(3, 0)}}, 1, api.ErrArg}, {x, 1, []api.Change{{Kind: -1}}, 0, api.ErrArg},
		{x, 1, []api.Change{add(reals(2, 65537))}, 0, api.ErrAdmit}, {x, 1, []api.Change{add(reals(2, 65536))}, 0, api.OK}, {x, 2, []api.Change{add(reals(2, 32769))}, 0, api.ErrAdmit},
		{x, 1, []api.Change{add(reals(2, 65536)), add(reals(3, 1))}, 0, api.ErrAdmit}, {x, 1, []api.Change{add(reals(2, 65537)), del(9)}, 1, api.ErrNone},
		{x, 1, []api.Change{add(reals(2, 65537)), set(reals(2, 65536))}, 0, api.OK}, {x, 1, []api.Change{add(reals(2, 65537)), del(2)}, 0, api.OK},
	} {
		y, place, e := Apply(c.t, c.ticks, c.l)
		if place != c.place || e != c.want || (y == nil) != (e != api.OK) {
			t.Errorf("%d: %d, %v", i, place, e)
		}
	}
	if !slices.Equal(x.IDs(), []int{1}) {
		t.Error("the tree is changed")
	}
}

func TestApply(t *testing.T) {
	x := hier.New()
	x.Add(leaf(1, 0))
	wide := leaf(1, 0)
	wide.Pkts = 9
	y, _, e := Apply(x, 1, []api.Change{set(wide), add(api.Class{ID: 5, Ls: linear(1)}), add(leaf(2, 5)), add(leaf(3, 5)), del(2)})
	if e != api.OK || !slices.Equal(y.IDs(), []int{1, 3, 5}) {
		t.Fatal(e)
	}
	if c, _ := y.Get(1); c != wide {
		t.Error(c)
	}
	if !slices.Equal(Touched(x, y), []int{1, 3, 5}) || Reals(x, y) {
		t.Error(Touched(x, y))
	}
	y.Del(1)
	if c, _ := x.Get(1); c != leaf(1, 0) {
		t.Error("the tree that comes out shares memory")
	}
}

func TestTouched(t *testing.T) {
	x, y := hier.New(), hier.New()
	x.Add(leaf(1, 0))
	x.Add(reals(2, 7))
	y.Add(leaf(1, 0))
	y.Add(reals(2, 7))
	if len(Touched(x, y)) != 0 || Reals(x, y) || len(Touched(nil, nil)) != 0 || Reals(nil, nil) {
		t.Error(Touched(x, y))
	}
	if !slices.Equal(Touched(x, nil), []int{1, 2}) || !slices.Equal(Touched(nil, y), []int{1, 2}) || !Reals(x, nil) || !Reals(nil, x) {
		t.Error(Touched(x, nil))
	}
	y.Del(1)
	if !slices.Equal(Touched(x, y), []int{1}) || Reals(x, y) || Reals(y, x) {
		t.Error(Touched(x, y))
	}
	z := hier.New()
	z.Add(leaf(5, 0))
	z.Add(leaf(3, 0))
	if !slices.Equal(Touched(z, x), []int{1, 2, 3, 5}) || !slices.Equal(Touched(x, z), []int{1, 2, 3, 5}) {
		t.Error(Touched(z, x))
	}
	y.Set(leaf(2, 0)) // Real in one of the two alone
	if !slices.Equal(Touched(x, y), []int{1, 2}) || !Reals(x, y) || !Reals(y, x) {
		t.Error(Touched(x, y))
	}
}

func some(r *rand.Rand) api.Change {
	id := 1 + r.Intn(8)
	c := leaf(id, 0)
	if r.Intn(3) == 0 {
		c = api.Class{ID: id, Parent: r.Intn(2), Ls: linear(1 + uint64(r.Intn(3)))}
	} else if r.Intn(3) == 0 {
		c.Rt = linear(uint64(r.Intn(40000)))
		c.Pkts = 1 + r.Intn(3)
	}
	return api.Change{Kind: 1 + r.Intn(3), Class: c}
}

// TestWhatFollows: 19.3 and 19.4.
func TestWhatFollows(t *testing.T) {
	r := rand.New(rand.NewSource(22))
	done := 0
	for range 5000 {
		x := hier.New()
		for range 8 {
			c := some(r)
			if c.Kind == api.ChAdd {
				x.Add(c.Class)
			}
		}
		one, two := []api.Change{some(r), some(r)}, []api.Change{some(r), some(r)}
		y, _, e := Apply(x, 1, one)
		if e != api.OK {
			continue
		}
		for _, id := range Touched(x, y) {
			if !slices.ContainsFunc(one, func(c api.Change) bool { return c.Class.ID == id }) {
				t.Fatalf("%d is touched by %v", id, one)
			}
		}
		z, _, e := Apply(y, 1, two)
		if e != api.OK {
			continue
		}
		done++
		w, place, e := Apply(x, 1, append(slices.Clone(one), two...))
		if e != api.OK || place != 0 || len(Touched(z, w)) != 0 {
			t.Fatalf("%v, %v: %v", one, two, e)
		}
	}
	if done < 50 {
		t.Error(done, "pairs of transactions that may be")
	}
}
