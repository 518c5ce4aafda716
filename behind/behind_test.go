package behind

import (
	"math/big"
	"math/rand"
	"slices"
	"testing"

	"floodgate/api"
	"floodgate/fair"
	"floodgate/wide"
)

func TestExample(t *testing.T) {
	s := []uint64{65536, 131072}
	if v, e := Least(131072, s, 3000, 100); v != 1596 || e != api.OK {
		t.Error(v, e)
	}
	if v, e := Least(65536, s, 3000, 100); v != 1000-202 || e != api.OK {
		t.Error(v, e)
	}
	if !slices.Equal(s, []uint64{65536, 131072}) {
		t.Error("the list is changed")
	}
}

func TestAheadAndHolds(t *testing.T) {
	r := rand.New(rand.NewSource(49))
	ahead, holds := 0, 0
	for range 5000 {
		got := func() fair.Got {
			return fair.Got{Slope: 1 + r.Uint64()>>(32+r.Intn(32))%api.MaxSlope, Bytes: r.Uint64() >> (24 + r.Intn(40))}
		}
		a, b, lmax, least := got(), got(), 1+r.Intn(api.MaxLen), 1+r.Uint64()>>(32+r.Intn(32))%api.MaxSlope
		if r.Intn(9) == 0 {
			b = a
		}
		x, e := Ahead(a, b)
		y, f := Ahead(b, a)
		apart, _ := fair.Apart(a, b)
		most, _ := fair.Most(a, b, lmax, least)
		// 49.3
		none := wide.Num{}
		if e != api.OK || f != api.OK || x != none && y != none || x != apart && y != apart || apart != none && x == y {
			t.Fatal(a, b, x, y)
		}
		left := new(big.Int).Mul(new(big.Int).SetUint64(a.Bytes), new(big.Int).SetUint64(b.Slope))
		right := new(big.Int).Mul(new(big.Int).SetUint64(b.Bytes), new(big.Int).SetUint64(a.Slope))
		if (x != none) != (left.Cmp(right) > 0) {
			t.Fatal(a, b, x)
		}
		if Holds(a, b, lmax, least) != (wide.Compare(x, most) <= 0) {
			t.Fatal(a, b, lmax, least)
		}
		if x != none {
			ahead++
		}
		if Holds(a, b, lmax, least) {
			holds++
		}
	}
	if ahead < 1000 || holds < 2000 || holds > 4900 {
		t.Error(ahead, holds)
	}
}

func TestErrors(t *testing.T) {
	ok := fair.Got{Slope: 1, Bytes: 1}
	for i, c := range []struct {
		a, b        fair.Got
		lmax        int
		least       uint64
		ahead, hold bool
	}{
		{ok, ok, 1, 1, true, true}, {fair.Got{}, ok, 1, 1, false, false}, {ok, fair.Got{Slope: api.MaxSlope + 1}, 1, 1, false, false}, {fair.Got{Slope: 1, Bytes: api.MaxBytes + 1}, ok, 1, 1, false, false}, {ok, fair.Got{Slope: 1, Bytes: api.MaxBytes + 1}, 1, 1, false, false},
		{ok, ok, 0, 1, true, false}, {ok, ok, api.MaxLen + 1, 1, true, false}, {ok, ok, 1, 0, true, false}, {ok, ok, 1, api.MaxSlope + 1, true, false}, {ok, fair.Got{Slope: 1, Bytes: api.MaxBytes}, 1, 1, true, true}, {fair.Got{Slope: 1, Bytes: api.MaxBytes}, ok, 1, 1, true, false},
	} {
		x, e := Ahead(c.a, c.b)
		if (e == api.OK) != c.ahead || e != api.OK && (e != api.ErrArg || x != (wide.Num{})) || Holds(c.a, c.b, c.lmax, c.least) != c.hold {
			t.Error(i, x, e)
		}
	}
	// 202 bytes are as far ahead as may be
	if b := (fair.Got{Slope: 65536}); !Holds(fair.Got{Slope: 65536, Bytes: 202}, b, 100, 65536) || Holds(fair.Got{Slope: 65536, Bytes: 203}, b, 100, 65536) || !Holds(b, fair.Got{Slope: 65536, Bytes: 900}, 100, 65536) {
		t.Error("Holds")
	}
	for i, c := range []struct {
		m     uint64
		s     []uint64
		bytes uint64
		lmax  int
		want  api.Errno
	}{
		{1, []uint64{1}, 0, 1, api.OK}, {1, nil, 0, 1, api.ErrArg}, {2, []uint64{1, 3}, 0, 1, api.ErrArg}, {0, []uint64{0}, 0, 1, api.ErrArg}, {1, []uint64{1, 0}, 0, 1, api.ErrArg}, {1, []uint64{1, api.MaxSlope + 1}, 0, 1, api.ErrArg},
		{1, slices.Repeat([]uint64{1}, 64), 0, 1, api.OK}, {1, slices.Repeat([]uint64{1}, 65), 0, 1, api.ErrArg}, {1, []uint64{1}, api.MaxBytes + 1, 1, api.ErrArg}, {1, []uint64{1}, api.MaxBytes, api.MaxLen, api.OK}, {1, []uint64{1}, 0, 0, api.ErrArg}, {1, []uint64{1}, 0, -1, api.ErrArg}, {1, []uint64{1}, 0, api.MaxLen + 1, api.ErrArg},
	} {
		if v, e := Least(c.m, c.s, c.bytes, c.lmax); e != c.want || e != api.OK && v != 0 {
			t.Error(i, v, e)
		}
	}
}

// TestLeast: 49.2, by exact fractions.
func TestLeast(t *testing.T) {
	r := rand.New(rand.NewSource(50))
	some := 0
	for range 5000 {
		s := make([]uint64, 1+r.Intn(64))
		shift := 32 + r.Intn(31)
		for i := range s {
			s[i] = 1 + r.Uint64()>>shift%api.MaxSlope
			if r.Intn(3) == 0 {
				s[i] = api.MaxSlope - s[i]%9
			}
		}
		m, bytes, lmax := s[r.Intn(len(s))], r.Uint64()>>(24+r.Intn(30)), 1+r.Intn(api.MaxLen)
		all, ticks := uint64(0), (uint64(lmax)*api.Unit+slices.Min(s)-1)/slices.Min(s)*2+2
		for _, v := range s {
			all += v
		}
		frac := func(a, b, c uint64) *big.Rat {
			top := new(big.Int).Mul(new(big.Int).SetUint64(a), new(big.Int).SetUint64(b))
			return new(big.Rat).SetFrac(top, new(big.Int).SetUint64(c))
		}
		want := new(big.Rat).Sub(frac(m, bytes, all), frac(m, ticks, api.Unit))
		v, e := Least(m, s, bytes, lmax)
		got := new(big.Rat).SetInt(new(big.Int).SetUint64(v))
		under := new(big.Rat).Sub(got, big.NewRat(1, 1))
		if e != api.OK || got.Cmp(want) < 0 || v > 0 && under.Cmp(want) >= 0 {
			t.Fatal(m, s, bytes, lmax, v, e)
		}
		if v > 0 {
			some++
		}
	}
	if some < 300 {
		t.Error(some)
	}
}
