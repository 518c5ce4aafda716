package ratio

import (
	"math/big"
	"math/rand"
	"testing"

	"floodgate/api"
	"floodgate/wide"
)

func numbers() []uint64 {
	out := []uint64{0, 1, 2, 3, 7, 10, 1<<32 - 1, 1 << 32, 1<<32 + 1, 1 << 63, 1<<64 - 2, 1<<64 - 1}
	r := rand.New(rand.NewSource(1))
	for range 20 {
		out = append(out, r.Uint64()>>r.Intn(64))
	}
	return out
}

func exact(v uint64) *big.Int { return new(big.Int).SetUint64(v) }

func product(a, b uint64) *big.Int { return new(big.Int).Mul(exact(a), exact(b)) }

// quotient is what is asked of n over d.
func quotient(n *big.Int, d uint64, up bool) (uint64, api.Errno) {
	if d == 0 {
		return 0, api.ErrArg
	}
	q, rest := new(big.Int).DivMod(n, exact(d), new(big.Int))
	if up && rest.Sign() > 0 {
		q.Add(q, big.NewInt(1))
	}
	if !q.IsUint64() {
		return 0, api.ErrOver
	}
	return q.Uint64(), api.OK
}

func TestCompare(t *testing.T) {
	l := numbers()[:16]
	for _, a := range l {
		for _, b := range l {
			for _, c := range l {
				for _, d := range l {
					if Compare(a, b, c, d) != product(a, b).Cmp(product(c, d)) {
						t.Fatalf("Compare(%d, %d, %d, %d)", a, b, c, d)
					}
				}
			}
		}
	}
}

func TestProductOver(t *testing.T) {
	for _, a := range numbers() {
		for _, b := range numbers() {
			for _, c := range numbers() {
				down, err := Down(a, b, c)
				if want, e := quotient(product(a, b), c, false); down != want || err != e {
					t.Fatalf("Down(%d, %d, %d): %d, %v", a, b, c, down, err)
				}
				up, again := Up(a, b, c)
				if want, e := quotient(product(a, b), c, true); up != want || again != e {
					t.Fatalf("Up(%d, %d, %d): %d, %v", a, b, c, up, again)
				}
				if err != api.OK || again != api.OK {
					continue
				}
				// 2.3
				whole := new(big.Int).Mod(product(a, b), exact(c)).Sign() == 0
				if up != down && up != down+1 || (up == down) != whole {
					t.Fatalf("Up and Down(%d, %d, %d): %d, %d", a, b, c, up, down)
				}
			}
		}
	}
	if v, _ := Down(10, 10, 3); v != 33 {
		t.Error(v)
	}
	if v, _ := Up(10, 10, 3); v != 34 {
		t.Error(v)
	}
	if v, err := Up(1<<63, 4, 1); v != 0 || err != api.ErrOver {
		t.Error(v, err)
	}
}

func TestWideOver(t *testing.T) {
	for _, hi := range numbers() {
		for _, lo := range numbers() {
			n := new(big.Int).Lsh(exact(hi), 64)
			n.Add(n, exact(lo))
			for _, d := range numbers() {
				v, err := Floor(wide.Num{Hi: hi, Lo: lo}, d)
				if want, e := quotient(n, d, false); v != want || err != e {
					t.Fatalf("Floor(%d, %d over %d): %d, %v", hi, lo, d, v, err)
				}
				v, err = Ceil(wide.Num{Hi: hi, Lo: lo}, d)
				if want, e := quotient(n, d, true); v != want || err != e {
					t.Fatalf("Ceil(%d, %d over %d): %d, %v", hi, lo, d, v, err)
				}
			}
		}
	}
}
