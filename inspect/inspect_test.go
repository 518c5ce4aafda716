package inspect

import (
	"math/rand"
	"slices"
	"strings"
	"testing"

	"floodgate/api"
	"floodgate/top"
)

func TestNumbers(t *testing.T) {
	for i, c := range []struct {
		s    string
		most uint64
		want uint64
		err  api.Errno
	}{
		{"0", 0, 0, api.OK}, {"7", 7, 7, api.OK}, {"8", 7, 0, api.ErrOver}, {"1", 0, 0, api.ErrOver}, {"18446744073709551615", most64, most64, api.OK}, {"18446744073709551616", most64, 0, api.ErrOver}, {"99999999999999999999999", most64, 0, api.ErrOver},
		{"", 9, 0, api.ErrForm}, {"00", 9, 0, api.ErrForm}, {"07", 9, 0, api.ErrForm}, {"+7", 9, 0, api.ErrForm}, {"-7", 9, 0, api.ErrForm}, {" 7", 9, 0, api.ErrForm}, {"7 ", 9, 0, api.ErrForm}, {"0x7", 9, 0, api.ErrForm}, {"7_0", 99, 0, api.ErrForm},
		{"٣", 9, 0, api.ErrForm}, {"\xff", 9, 0, api.ErrForm}, {"99999999999999999999999x", 9, 0, api.ErrForm}, {"18446744073709551620", most64, 0, api.ErrOver}, {"27670116110564327424", most64, 0, api.ErrOver},
	} {
		if v, e := Number(c.s, c.most); v != c.want || e != c.err {
			t.Errorf("%d: %d, %v", i, v, e)
		}
	}
	for v, want := range map[uint64]string{0: "0", 10: "10", most64: "18446744073709551615"} {
		if Tens(v) != want {
			t.Error(v)
		}
	}
}

func TestCurves(t *testing.T) {
	for s, c := range map[string]api.Curve{"-": {}, "65536": {M1: 65536, M2: 65536}, "9:2:1": {M1: 9, D: 2, M2: 1}, "0:2:1": {D: 2, M2: 1}, "1:0:2": {M1: 1, M2: 2}, "0:1:0": {D: 1}, "5:1:5": {M1: 5, D: 1, M2: 5}, "18446744073709551615:18446744073709551615:0": {M1: most64, D: most64}} {
		if Curve(c) != s {
			t.Error(c, Curve(c))
		}
		if x, e := ParseCurve(s); x != c || e != api.OK {
			t.Error(s, x, e)
		}
	}
	for s, want := range map[string]api.Errno{
		"": api.ErrForm, "0": api.ErrForm, "5:0:5": api.ErrForm, "0:0:0": api.ErrForm, "1:2": api.ErrForm, "1:2:3:4": api.ErrForm, "::": api.ErrForm, "1:2:": api.ErrForm, ":2:3": api.ErrForm, "01:2:3": api.ErrForm, "--": api.ErrForm, "1:-:3": api.ErrForm,
		"18446744073709551616": api.ErrOver, "1:18446744073709551616:x": api.ErrOver, "1:x:18446744073709551616": api.ErrForm, "18446744073709551616:2": api.ErrForm,
		strings.Repeat("9", 80): api.ErrOver, strings.Repeat("9", 81): api.ErrLong, strings.Repeat("x", 80): api.ErrForm,
	} {
		if x, e := ParseCurve(s); x != (api.Curve{}) || e != want {
			t.Errorf("%q: %v, %v", s, x, e)
		}
	}
}

func TestClasses(t *testing.T) {
	c := api.Class{ID: 3, Parent: 1, Leaf: true, Ls: api.Curve{M1: 65536, M2: 65536}, Ul: api.Curve{M1: 9, D: 2, M2: 1}, Pkts: 10, Bytes: 1500}
	if s, e := Class(c); s != "3 1 leaf - 65536 9:2:1 10 1500" || e != api.OK {
		t.Error(s, e)
	}
	if s, e := Class(api.Class{Rt: api.Curve{M1: 7, M2: 7}}); s != "0 0 inner 7 - - 0 0" || e != api.OK {
		t.Error(s, e)
	}
	for _, c := range []api.Class{{ID: -1}, {Parent: -1}, {Pkts: -1}, {Bytes: -1 << 63}} {
		if s, e := Class(c); s != "" || e != api.ErrForm {
			t.Error(c, s, e)
		}
	}
	if x, e := ParseClass("3 1 leaf - 65536 9:2:1 10 1500"); x != c || e != api.OK {
		t.Error(x, e)
	}
	for s, want := range map[string]api.Errno{
		"": api.ErrForm, "3 1 leaf - 65536 9:2:1 10": api.ErrForm, "3 1 leaf - 65536 9:2:1 10 1500 1": api.ErrForm, "3  1 leaf - 65536 9:2:1 10": api.ErrForm, " 3 1 leaf - 65536 9:2:1 10": api.ErrForm, "3 1 leaf - 65536 9:2:1 10 ": api.ErrForm, "3 1 leaf - 65536 9:2:1  1500": api.ErrForm,
		"3 1 Leaf - 65536 9:2:1 10 1500": api.ErrForm, "x 1 leaf - 65536 9:2:1 10 1500": api.ErrForm, "9223372036854775808 x leaf - 65536 9:2:1 10 1500": api.ErrOver, "3 9223372036854775808 x - 65536 9:2:1 10 1500": api.ErrOver, "3 1 leaf 0 18446744073709551616 9:2:1 10 1500": api.ErrForm,
		"3 1 leaf - 18446744073709551616 9:2 10 1500": api.ErrOver, "3 1 leaf - 65536 9:2 9223372036854775808 1500": api.ErrForm, "3 1 leaf - 65536 9:2:1 9223372036854775808 x": api.ErrOver, "9223372036854775808 1 leaf - 65536 9:2:1 10 ": api.ErrForm, "9223372036854775808 1  - 65536 9:2:1 10 1500": api.ErrForm, "3 1 leaf - 65536 9:2:1 10 01500": api.ErrForm, "3 1 leaf - 65536 9:2:1 10 9223372036854775808": api.ErrOver,
		"3 1 leaf - " + strings.Repeat("9", 81) + " - 10 1500": api.ErrLong, "x 1 leaf - " + strings.Repeat("9", 81) + " - 10 1500": api.ErrForm,
		strings.Repeat(" ", 400): api.ErrForm, strings.Repeat(" ", 401): api.ErrLong,
	} {
		if x, e := ParseClass(s); x != (api.Class{}) || e != want {
			t.Errorf("%q: %v, %v", s, x, e)
		}
	}
	if x, e := ParseClass("9223372036854775807 9223372036854775807 inner - - - 9223372036854775807 9223372036854775807"); x.ID != mostInt || x.Bytes != mostInt || e != api.OK {
		t.Error(x, e)
	}
}

// TestRoundTrips: 40.5.
func TestRoundTrips(t *testing.T) {
	r := rand.New(rand.NewSource(38))
	bend := func() api.Curve {
		return api.Curve{M1: uint64(r.Intn(3)), D: uint64(r.Intn(3)), M2: uint64(r.Intn(3))}
	}
	for range 2000 {
		c := api.Class{ID: r.Int() >> r.Intn(63), Parent: r.Intn(9), Leaf: r.Intn(2) == 0, Rt: bend(), Ls: bend(), Ul: bend(), Pkts: r.Intn(9), Bytes: r.Int() >> r.Intn(63)}
		s, e := Class(c)
		x, f := ParseClass(s)
		if x != c || e != api.OK || f != api.OK {
			t.Fatal(c, s, x, e, f)
		}
		b := []byte(s)
		b[r.Intn(len(b))] = "0123456789 :-"[r.Intn(13)]
		if x, e := ParseClass(string(b)); e == api.OK {
			if again, e := Class(x); again != string(b) || e != api.OK {
				t.Fatalf("%q: %q", b, again)
			}
		}
	}
}

func TestTree(t *testing.T) {
	if len(Tree(nil)) != 0 {
		t.Error("the tree of none")
	}
	s, _ := top.New(api.Config{T: 1, Lmax: 100})
	if len(Tree(s)) != 0 {
		t.Error(Tree(s))
	}
	l := api.Curve{M1: 65536, M2: 65536}
	leaf := func(id, parent int) api.Change {
		return api.Change{Kind: api.ChAdd, Class: api.Class{ID: id, Parent: parent, Leaf: true, Ls: l, Pkts: 2, Bytes: 200}}
	}
	inner := func(id, parent int) api.Change {
		return api.Change{Kind: api.ChAdd, Class: api.Class{ID: id, Parent: parent, Ls: l}}
	}
	s.Do(api.Op{Kind: api.OpChange, Changes: []api.Change{inner(9, 0), inner(4, 9), leaf(2, 0), leaf(7, 4), leaf(3, 4), leaf(1, 9)}})
	s.Do(api.Op{Kind: api.OpRules, Rules: []api.Rule{{Class: 7}}})
	for _, n := range []int{100, 40, 60, 1} {
		s.Do(api.Op{Kind: api.OpPacket, Packet: api.Packet{Len: n}})
	}
	want := []string{
		"2 0 leaf - 65536 - 2 200 passive total 0 queue 0 0 drops 0",
		"9 0 inner - 65536 - 0 0 active total 100",
		"  1 9 leaf - 65536 - 2 200 passive total 0 queue 0 0 drops 0",
		"  4 9 inner - 65536 - 0 0 active total 100",
		"    3 4 leaf - 65536 - 2 200 passive total 0 queue 0 0 drops 0",
		"    7 4 leaf - 65536 - 2 200 active total 100 queue 2 100 drops 1",
	}
	if got := Tree(s); !slices.Equal(got, want) {
		t.Error(strings.Join(got, "\n"))
	}
}
