package bound

import (
	"math/big"
	"testing"

	"floodgate/api"
)

var numbers = []uint64{0, 1, 2, 3, 5, 7, 1 << 31, 1 << 32, 1<<32 + 1, 1 << 61, api.MaxClock - 1, api.MaxClock, api.MaxClock + 1, api.Never - 1, api.Never, api.Never + 1, 1<<64 - 2, 1<<64 - 1}

func exact(v uint64) *big.Int { return new(big.Int).SetUint64(v) }

func hold(t *testing.T, name string, v uint64, err api.Errno, want *big.Int, most uint64, over api.Errno) {
	t.Helper()
	switch {
	case want.Sign() < 0 || want.Cmp(exact(most)) > 0:
		if v != 0 || err != over {
			t.Fatalf("%s: %d, %v instead of %v", name, v, err, over)
		}
	case err != api.OK || exact(v).Cmp(want) != 0:
		t.Fatalf("%s: %d, %v instead of %v", name, v, err, want)
	}
}

func TestBounds(t *testing.T) {
	for _, a := range numbers {
		for _, b := range numbers {
			sum := new(big.Int).Add(exact(a), exact(b))
			for _, most := range numbers {
				v, err := Add(a, b, most)
				hold(t, "Add", v, err, sum, most, api.ErrOver)
				v, err = Mul(a, b, most)
				hold(t, "Mul", v, err, new(big.Int).Mul(exact(a), exact(b)), most, api.ErrOver)
			}
			v, err := Sub(a, b)
			hold(t, "Sub", v, err, new(big.Int).Sub(exact(a), exact(b)), 1<<64-1, api.ErrOver)
			v, err = Clock(a, b)
			hold(t, "Clock", v, err, sum, api.MaxClock, api.ErrClock)
			// 3.3: Sub of Add is what was there
			if s, err := Add(a, b, 1<<64-1); err == api.OK {
				if back, err := Sub(s, b); back != a || err != api.OK || s < a {
					t.Fatalf("Sub of Add(%d, %d): %d, %v", a, b, back, err)
				}
			}
		}
	}
	if _, err := Add(1<<64-1, 1, 1<<64-1); err != api.ErrOver {
		t.Error(err)
	}
}

func TestLeast(t *testing.T) {
	for i, c := range []struct {
		l    []uint64
		want uint64
	}{
		{nil, api.Never}, {[]uint64{5, 3}, 3}, {[]uint64{3, 5}, 3}, {[]uint64{0}, 0}, {[]uint64{7, 7, 6, 7}, 6},
		{[]uint64{1<<64 - 1}, api.Never}, {[]uint64{api.Never}, api.Never}, {[]uint64{api.Never - 1}, api.Never - 1}, {[]uint64{api.Never + 1, 9}, 9},
	} {
		if v := Least(c.l...); v != c.want {
			t.Errorf("%d: %d", i, v)
		}
	}
}
