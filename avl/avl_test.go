package avl

import (
	"math/rand"
	"slices"
	"testing"

	"floodgate/api"
	"floodgate/rank"
)

func key(at uint64, id int) rank.Key { return rank.Key{At: at, ID: id} }

func TestExample(t *testing.T) {
	x := New()
	one, two, three := Item{key(1, 2), key(5, 2)}, Item{key(2, 3), key(4, 3)}, Item{key(3, 1), key(1, 1)}
	for _, i := range []Item{three, one, two} {
		if e := x.Insert(i.Key, i.Val); e != api.OK {
			t.Fatal(e)
		}
	}
	hold := func(name string, want Item, has bool) func(Item, bool) {
		return func(got Item, ok bool) {
			if got != want || ok != has {
				t.Errorf("%s: %v, %v", name, got, ok)
			}
		}
	}
	hold("Below(2)", two, true)(x.Below(2))
	hold("First(4)", two, true)(x.First(4))
	hold("First(3)", three, true)(x.First(3))
	hold("Least", one, true)(x.Least())
	hold("Below(0)", Item{}, false)(x.Below(0))
	hold("First(0)", Item{}, false)(x.First(0))
	if x.Insert(one.Key, two.Val) != api.ErrSame || x.Delete(key(9, 9)) != api.ErrNone || x.Len() != 3 || x.Height() != 2 {
		t.Error(x.Items())
	}
	if v, e := x.Find(one.Key); v != one.Val || e != api.OK {
		t.Error(v, e)
	}
}

func TestNilAndEmpty(t *testing.T) {
	for _, x := range []*Tree{nil, {}, New()} {
		want := api.ErrNone
		if x == nil {
			want = api.ErrState
		}
		if v, e := x.Find(key(1, 1)); v != (rank.Key{}) || e != want || x.Delete(key(1, 1)) != want {
			t.Error(v, e)
		}
		_, a := x.Least()
		_, b := x.Below(1<<64 - 1)
		_, c := x.First(1<<64 - 1)
		if a || b || c || x.Len() != 0 || x.Height() != 0 || len(x.Items()) != 0 {
			t.Error("an item of none")
		}
		if x == nil && x.Insert(key(1, 1), key(1, 1)) != api.ErrState {
			t.Error("Insert of nil")
		}
	}
}

// model is a list of items, by rising keys.
type model []Item

func (m model) below(at uint64) (out Item, ok bool) {
	for _, x := range m {
		if x.Key.At <= at && (!ok || rank.Compare(x.Val, out.Val) < 0) {
			out, ok = x, true
		}
	}
	return
}

func (m model) first(at uint64) (Item, bool) {
	for _, x := range m {
		if x.Val.At <= at {
			return x, true
		}
	}
	return Item{}, false
}

// fewest is how many items a tree of a height has at the least.
func fewest(h int) int {
	if h < 2 {
		return h
	}
	return 1 + fewest(h-1) + fewest(h-2)
}

func hold(t *testing.T, x *Tree, m model) {
	t.Helper()
	if !evenly(x.root) {
		t.Fatalf("%v is not balanced", m)
	}
	if !slices.Equal(x.Items(), m) || x.Len() != len(m) || len(m) < fewest(x.Height()) {
		t.Fatalf("%v instead of %v, height %d", x.Items(), m, x.Height())
	}
	if got, ok := x.Least(); ok != (len(m) > 0) || ok && got != m[0] {
		t.Fatal(got, ok)
	}
	for at := range uint64(14) {
		if at == 13 {
			at = 1<<64 - 1
		}
		got, ok := x.Below(at)
		if want, has := m.below(at); got != want || ok != has {
			t.Fatalf("Below(%d) of %v: %v, %v", at, m, got, ok)
		}
		got, ok = x.First(at)
		if want, has := m.first(at); got != want || ok != has {
			t.Fatalf("First(%d) of %v: %v, %v", at, m, got, ok)
		}
	}
}

// TestAgainstAList: 13.1 to 13.3.
func TestAgainstAList(t *testing.T) {
	r := rand.New(rand.NewSource(17))
	for range 40 {
		x, m := New(), model(nil)
		for range 150 {
			k, v := key(uint64(r.Intn(12)), r.Intn(4)), key(uint64(r.Intn(12)), r.Intn(3))
			at, there := slices.BinarySearchFunc(m, k, func(a Item, b rank.Key) int { return rank.Compare(a.Key, b) })
			want := api.OK
			var err api.Errno
			if r.Intn(3) > 0 {
				if there {
					want = api.ErrSame
				} else {
					m = slices.Insert(m, at, Item{k, v})
				}
				err = x.Insert(k, v)
			} else {
				if there {
					m = slices.Delete(m, at, at+1)
				} else {
					want = api.ErrNone
				}
				err = x.Delete(k)
			}
			if err != want {
				t.Fatal(err, want)
			}
			hold(t, x, m)
			for _, i := range m {
				if v, e := x.Find(i.Key); v != i.Val || e != api.OK {
					t.Fatal(i, v, e)
				}
			}
		}
	}
}

// evenly tells whether all nodes below one are, and know what stands below them.
func evenly(n *node) bool {
	if n == nil {
		return true
	}
	best := n.item
	for _, x := range [2]*node{n.left, n.right} {
		walk(x, func(i Item) {
			if c := rank.Compare(i.Val, best.Val); c < 0 || c == 0 && rank.Compare(i.Key, best.Key) < 0 {
				best = i
			}
		})
	}
	d := height(n.left) - height(n.right)
	right := n.best == best && n.height == 1+max(height(n.left), height(n.right)) && d >= -1 && d <= 1
	return right && evenly(n.left) && evenly(n.right)
}

func TestRows(t *testing.T) {
	for _, step := range []int{1, -1} {
		x := New()
		for i := range 1000 {
			x.Insert(key(uint64(5000+step*i), 0), key(uint64(i%7), i))
		}
		if x.Len() < fewest(x.Height()) || x.Height() > 14 {
			t.Errorf("%d items, height %d", x.Len(), x.Height())
		}
		for i := range 900 {
			if e := x.Delete(key(uint64(5000+step*i), 0)); e != api.OK {
				t.Fatal(e)
			}
			if x.Len() < fewest(x.Height()) {
				t.Fatalf("%d items, height %d", x.Len(), x.Height())
			}
		}
	}
}
