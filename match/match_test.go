package match

import (
	"math/rand"
	"slices"
	"testing"

	"floodgate/api"
)

func TestExample(t *testing.T) {
	x, e := New([]api.Rule{{Mask: api.Header{0xffff}, Want: api.Header{7}, Class: 3}})
	if e != api.OK {
		t.Fatal(e)
	}
	if id, e := x.Find(api.Header{7, 1, 2, 3}); id != 3 || e != api.OK {
		t.Error(id, e)
	}
	if id, e := x.Find(api.Header{8, 1, 2, 3}); id != 0 || e != api.ErrMatch {
		t.Error(id, e)
	}
}

func TestNew(t *testing.T) {
	ok := api.Rule{Class: 1}
	for i, c := range []struct {
		l    []api.Rule
		want api.Errno
	}{
		{nil, api.OK}, {slices.Repeat([]api.Rule{ok}, api.MaxRules), api.OK}, {slices.Repeat([]api.Rule{ok}, api.MaxRules+1), api.ErrLong},
		{make([]api.Rule, api.MaxRules+1), api.ErrLong}, {[]api.Rule{ok, {}}, api.ErrArg}, {[]api.Rule{{Class: -1}}, api.ErrArg}, {[]api.Rule{{Class: api.MaxID + 1}}, api.ErrArg},
		{[]api.Rule{{Class: api.MaxID}}, api.OK}, {[]api.Rule{ok, {Mask: api.Header{0, 0, 0, 6}, Want: api.Header{0, 0, 0, 4}, Class: 1}}, api.OK},
		{[]api.Rule{ok, {Mask: api.Header{0, 0, 0, 6}, Want: api.Header{0, 0, 0, 1}, Class: 1}}, api.ErrArg}, {[]api.Rule{{Mask: api.Header{6}, Want: api.Header{7}, Class: 1}}, api.ErrArg},
		{[]api.Rule{{Mask: api.Header{1, 0xffff}, Want: api.Header{0, 0xffff, 1}, Class: 1}}, api.ErrArg},
	} {
		x, e := New(c.l)
		if e != c.want || (x == nil) != (e != api.OK) || e == api.OK && !slices.Equal(x.Rules(), c.l) {
			t.Errorf("%d: %v", i, e)
		}
	}
}

func TestNilAndEmpty(t *testing.T) {
	var x *Table
	if id, e := x.Find(api.Header{}); id != 0 || e != api.ErrState || len(x.Rules()) != 0 || x.Uses(0) || x.Uses(1) {
		t.Error(id, e)
	}
	if id, e := new(Table).Find(api.Header{}); id != 0 || e != api.ErrMatch {
		t.Error(id, e)
	}
}

func TestMatches(t *testing.T) {
	r := api.Rule{Mask: api.Header{0xff00, 0, 1, 0xffff}, Want: api.Header{0x1200, 0, 1, 5}}
	for h, want := range map[api.Header]bool{{0x1234, 9, 3, 5}: true, {0x1200, 0, 1, 5}: true, {0x1334, 9, 3, 5}: false, {0x1234, 9, 2, 5}: false, {0x1234, 9, 3, 4}: false} {
		if Matches(r, h) != want {
			t.Error(h)
		}
	}
	// a rule that may not be matches nothing: no header has, under the mask, the bit that is wanted
	if Matches(api.Rule{Want: api.Header{1}}, api.Header{1}) {
		t.Error("a bit that the mask has not")
	}
}

func header(r *rand.Rand) api.Header {
	var h api.Header
	for i := range h {
		h[i] = uint16(r.Intn(2))
	}
	return h
}

// TestFirstRule: 16.1 and 16.2, against the list of rules.
func TestFirstRule(t *testing.T) {
	r := rand.New(rand.NewSource(20))
	for range 500 {
		l := make([]api.Rule, r.Intn(12))
		for i := range l {
			l[i] = api.Rule{Mask: header(r), Want: header(r), Class: 1 + r.Intn(9)}
			if r.Intn(2) == 0 {
				l[i].Mask = api.Header{all, all, all, all}
			}
			for j := range l[i].Want {
				l[i].Want[j] &= l[i].Mask[j]
			}
		}
		x, e := New(l)
		if e != api.OK {
			t.Fatal(e)
		}
		uses := map[int]int{}
		for _, y := range l {
			uses[y.Class]++
		}
		for id := -1; id < 12; id++ {
			if x.Uses(id) != (uses[id] > 0) {
				t.Fatal("Uses", id)
			}
		}
		kept := slices.Clone(l)
		for i := range l {
			l[i] = api.Rule{}
		}
		// what was handed in, and what is told, may be changed by others
		clear(x.Rules())
		for range 30 {
			h := header(r)
			want, err := 0, api.ErrMatch
			for _, y := range kept {
				if Matches(y, h) {
					want, err = y.Class, api.OK
					break
				}
			}
			if id, e := x.Find(h); id != want || e != err {
				t.Fatalf("Find(%v) of %v: %d, %v", h, kept, id, e)
			}
		}
	}
}
