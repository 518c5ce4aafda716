package fair

import (
	"math/big"
	"math/rand"
	"testing"

	"floodgate/api"
	"floodgate/wide"
)

func exact(v uint64) *big.Int { return new(big.Int).SetUint64(v) }

func times(l ...uint64) *big.Int {
	out := big.NewInt(1)
	for _, v := range l {
		out.Mul(out, exact(v))
	}
	return out
}

func full(a wide.Num) *big.Int {
	v := new(big.Int).Lsh(exact(a.Hi), 64)
	return v.Add(v, exact(a.Lo))
}

func TestExample(t *testing.T) {
	a, b := Got{65536, 100}, Got{131072, 300}
	apart, err := Apart(a, b)
	if err != api.OK || full(apart).Cmp(times(300*65536-100*131072, 65536)) != 0 {
		t.Error(apart, err)
	}
	most, err := Most(a, b, 100, 65536)
	if err != api.OK || full(most).Cmp(times(202, 65536, 131072)) != 0 {
		t.Error(most, err)
	}
	if !Fair(a, b, 100, 65536) || !Fair(b, a, 100, 65536) || Fair(a, Got{131072, 605}, 100, 65536) || !Fair(a, Got{131072, 604}, 100, 65536) {
		t.Error("Fair")
	}
}

func TestErrors(t *testing.T) {
	ok := Got{1, 1}
	for i, c := range []struct {
		a     Got
		lmax  int
		least uint64
		// which of the two have an error
		apart, most bool
	}{
		{Got{0, 1}, 1, 1, true, true}, {Got{api.MaxSlope + 1, 1}, 1, 1, true, true}, {Got{1, api.MaxBytes + 1}, 1, 1, true, false}, {ok, 0, 1, false, true}, {ok, -1, 1, false, true}, {ok, api.MaxLen + 1, 1, false, true},
		{ok, 1, 0, false, true}, {ok, 1, api.MaxSlope + 1, false, true}, {Got{api.MaxSlope, api.MaxBytes}, api.MaxLen, api.MaxSlope, false, false}, {ok, api.MaxLen, 1, false, false},
	} {
		for _, turned := range []bool{false, true} {
			a, b := c.a, ok
			if turned {
				a, b = b, a
			}
			x, e := Apart(a, b)
			y, f := Most(a, b, c.lmax, c.least)
			if (e == api.ErrArg) != c.apart || (f == api.ErrArg) != c.most || e != api.OK && x != (wide.Num{}) || f != api.OK && y != (wide.Num{}) {
				t.Error(i, e, f)
			}
			if (c.apart || c.most) && Fair(a, b, c.lmax, c.least) {
				t.Error(i, "fair")
			}
		}
	}
}

// TestExactNumbers: 33.1 to 33.3.
func TestExactNumbers(t *testing.T) {
	r := rand.New(rand.NewSource(35))
	fair := 0
	for range 5000 {
		got := func() Got { return Got{1 + r.Uint64()>>(32+r.Intn(32))%api.MaxSlope, r.Uint64() >> (24 + r.Intn(40))} }
		a, b, lmax, least := got(), got(), 1+r.Intn(api.MaxLen), 1+r.Uint64()>>(32+r.Intn(32))%api.MaxSlope
		x, e := Apart(a, b)
		want := new(big.Int).Sub(times(a.Bytes, b.Slope), times(b.Bytes, a.Slope))
		want.Abs(want).Mul(want, exact(api.Unit))
		if e != api.OK || full(x).Cmp(want) != 0 {
			t.Fatal(a, b, x, e)
		}
		y, e := Most(a, b, lmax, least)
		ticks := (uint64(lmax)*api.Unit+least-1)/least*2 + 2
		if e != api.OK || full(y).Cmp(times(a.Slope, b.Slope, ticks)) != 0 {
			t.Fatal(a, b, lmax, least, y, e)
		}
		if Fair(a, b, lmax, least) != (want.Cmp(times(a.Slope, b.Slope, ticks)) <= 0) || Fair(a, b, lmax, least) != Fair(b, a, lmax, least) {
			t.Fatal(a, b, lmax, least)
		}
		if z, _ := Apart(b, a); z != x {
			t.Fatal(a, b)
		}
		if Fair(a, b, lmax, least) {
			fair++
		}
	}
	if fair < 100 || fair > 4900 {
		t.Error(fair)
	}
}
