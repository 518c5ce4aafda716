package spec

import (
	"testing"

	"floodgate/api"
)

var (
	none    = api.Curve{}
	linear  = api.Curve{M1: 5, M2: 5}
	concave = api.Curve{M1: 5, D: 3, M2: 2}
	convex  = api.Curve{D: 3, M2: 2}
	bad     = api.Curve{M1: 1, D: 3, M2: 2}
)

// leaf is a leaf that may be, but for what is changed.
func leaf(change func(*api.Class)) api.Class {
	c := api.Class{ID: 3, Parent: 1, Leaf: true, Ls: linear, Pkts: 9, Bytes: 900}
	change(&c)
	return c
}

func inner(change func(*api.Class)) api.Class {
	c := api.Class{ID: 3, Parent: 1, Ls: linear}
	change(&c)
	return c
}

func TestRight(t *testing.T) {
	for i, x := range []struct {
		want api.Errno
		c    api.Class
	}{
		{api.OK, leaf(func(c *api.Class) {})}, {api.OK, inner(func(c *api.Class) {})},
		{api.ErrArg, leaf(func(c *api.Class) { c.ID = 0 })}, {api.ErrArg, leaf(func(c *api.Class) { c.ID = -3 })}, {api.ErrArg, leaf(func(c *api.Class) { c.ID = api.MaxID + 1 })}, {api.OK, leaf(func(c *api.Class) { c.ID = api.MaxID })},
		{api.ErrArg, leaf(func(c *api.Class) { c.Parent = -1 })}, {api.ErrArg, leaf(func(c *api.Class) { c.Parent = api.MaxID + 1 })}, {api.OK, leaf(func(c *api.Class) { c.Parent = api.MaxID })}, {api.OK, leaf(func(c *api.Class) { c.Parent = 0 })}, {api.ErrArg, leaf(func(c *api.Class) { c.Parent = 3 })},
		{api.ErrCurve, leaf(func(c *api.Class) { c.Rt = bad })}, {api.ErrCurve, leaf(func(c *api.Class) { c.Ls = bad })}, {api.ErrCurve, leaf(func(c *api.Class) { c.Ul = bad })},
		{api.OK, leaf(func(c *api.Class) { c.Rt = convex })}, {api.ErrCurve, leaf(func(c *api.Class) { c.Ls = convex })}, {api.ErrCurve, leaf(func(c *api.Class) { c.Ul = convex })},
		{api.OK, leaf(func(c *api.Class) { c.Rt, c.Ls, c.Ul = concave, concave, concave })}, {api.OK, leaf(func(c *api.Class) { c.Rt, c.Ls = linear, none })},
		{api.ErrLeaf, leaf(func(c *api.Class) { c.Ls = none })}, {api.ErrLeaf, leaf(func(c *api.Class) { c.Rt, c.Ls, c.Ul = linear, none, linear })}, {api.OK, leaf(func(c *api.Class) { c.Ul = linear })},
		{api.ErrLeaf, leaf(func(c *api.Class) { c.Pkts = 0 })}, {api.ErrLeaf, leaf(func(c *api.Class) { c.Pkts = -1 })}, {api.ErrLeaf, leaf(func(c *api.Class) { c.Pkts = api.MaxPkts + 1 })}, {api.OK, leaf(func(c *api.Class) { c.Pkts = api.MaxPkts })}, {api.OK, leaf(func(c *api.Class) { c.Pkts, c.Bytes = 1, 1 })},
		{api.ErrLeaf, leaf(func(c *api.Class) { c.Bytes = 0 })}, {api.ErrLeaf, leaf(func(c *api.Class) { c.Bytes = api.MaxQueue + 1 })}, {api.OK, leaf(func(c *api.Class) { c.Bytes = api.MaxQueue })},
		{api.ErrLeaf, inner(func(c *api.Class) { c.Pkts = 1 })}, {api.ErrLeaf, inner(func(c *api.Class) { c.Bytes = 1 })}, {api.ErrLeaf, inner(func(c *api.Class) { c.Bytes = -1 })}, {api.ErrLeaf, inner(func(c *api.Class) { c.Rt = linear })},
		{api.OK, inner(func(c *api.Class) { c.Ls = none })}, {api.ErrLeaf, inner(func(c *api.Class) { c.Ls, c.Ul = none, linear })}, {api.OK, inner(func(c *api.Class) { c.Ls, c.Ul = concave, concave })},
		// of several errors the first one is told
		{api.ErrArg, leaf(func(c *api.Class) { c.ID, c.Rt, c.Pkts = 0, bad, 0 })}, {api.ErrCurve, leaf(func(c *api.Class) { c.Rt, c.Pkts = bad, 0 })}, {api.ErrCurve, inner(func(c *api.Class) { c.Ul, c.Pkts = convex, 1 })},
	} {
		if e := Right(x.c); e != x.want {
			t.Errorf("%d: %v: %v instead of %v", i, x.c, e, x.want)
		}
	}
}

func TestWhatAClassHas(t *testing.T) {
	for c, want := range map[api.Curve]bool{none: false, linear: true, concave: true, convex: true, bad: false} {
		if Real(api.Class{Rt: c}) != want || Shares(api.Class{Ls: c}) != want || Capped(api.Class{Ul: c}) != want {
			t.Error(c)
		}
		if x := (api.Class{Leaf: true}); Real(x) || Shares(x) || Capped(x) {
			t.Error(x)
		}
	}
}

// TestWhatFollows: 17.3.
func TestWhatFollows(t *testing.T) {
	l := []api.Curve{none, linear, concave, convex, bad}
	for _, rt := range l {
		for _, ls := range l {
			for _, ul := range l {
				for _, isLeaf := range []bool{true, false} {
					for _, room := range []int{0, 5} {
						c := api.Class{ID: 1, Leaf: isLeaf, Rt: rt, Ls: ls, Ul: ul, Pkts: room, Bytes: room}
						if Right(c) == api.OK && (isLeaf && !Real(c) && !Shares(c) || Real(c) && !isLeaf || Capped(c) && !Shares(c)) {
							t.Errorf("%v may be", c)
						}
					}
				}
			}
		}
	}
}
