package wide

import (
	"math/big"
	"math/rand"
	"testing"

	"floodgate/api"
)

var edges = []uint64{0, 1, 2, 3, 9, 10, 1<<31 - 1, 1 << 32, 1<<32 - 1, 1<<32 + 1, 1 << 63, 1<<63 - 1, 1<<64 - 2, 1<<64 - 1}

func nums() []Num {
	var out []Num
	for _, hi := range edges {
		for _, lo := range edges {
			out = append(out, Num{hi, lo})
		}
	}
	r := rand.New(rand.NewSource(1))
	for range 60 {
		out = append(out, Num{r.Uint64() >> r.Intn(64), r.Uint64() >> r.Intn(64)})
	}
	return out
}

func words() []uint64 {
	out := append([]uint64(nil), edges...)
	r := rand.New(rand.NewSource(2))
	for range 60 {
		out = append(out, r.Uint64()>>r.Intn(64))
	}
	return out
}

func exact(a Num) *big.Int {
	v := new(big.Int).SetUint64(a.Hi)
	v.Lsh(v, 64)
	return v.Add(v, new(big.Int).SetUint64(a.Lo))
}

var whole = new(big.Int).Lsh(big.NewInt(1), 128)

func TestSumsAndDifferences(t *testing.T) {
	for _, a := range nums() {
		for _, b := range nums() {
			sum, over := Add(a, b)
			want := new(big.Int).Add(exact(a), exact(b))
			if over != (want.Cmp(whole) >= 0) || exact(sum).Cmp(want.Mod(want, whole)) != 0 {
				t.Fatalf("Add(%v, %v): %v, %v", a, b, sum, over)
			}
			left, under := Sub(a, b)
			want = new(big.Int).Sub(exact(a), exact(b))
			if under != (want.Sign() < 0) || exact(left).Cmp(want.Mod(want, whole)) != 0 {
				t.Fatalf("Sub(%v, %v): %v, %v", a, b, left, under)
			}
			if Compare(a, b) != exact(a).Cmp(exact(b)) {
				t.Fatalf("Compare(%v, %v)", a, b)
			}
			// 1.4: Sub of Add is what was there, and the flags agree
			if back, again := Sub(sum, b); back != a || again != over {
				t.Fatalf("Sub of Add(%v, %v): %v, %v", a, b, back, again)
			}
		}
	}
}

func TestProducts(t *testing.T) {
	for _, a := range words() {
		if Of(a) != (Num{Lo: a}) {
			t.Fatalf("Of(%d)", a)
		}
		for _, b := range words() {
			want := new(big.Int).Mul(new(big.Int).SetUint64(a), new(big.Int).SetUint64(b))
			if p := Mul(a, b); exact(p).Cmp(want) != 0 {
				t.Fatalf("Mul(%d, %d): %v", a, b, p)
			}
		}
	}
	if Mul(1<<63, 6) != (Num{Hi: 3}) {
		t.Error("Mul of 2^63 and 6")
	}
}

func TestQuotients(t *testing.T) {
	for _, a := range nums() {
		for _, b := range words() {
			q, rest, err := Div(a, b)
			if b == 0 {
				if q != (Num{}) || rest != 0 || err != api.ErrArg {
					t.Fatalf("Div(%v, 0): %v, %d, %v", a, q, rest, err)
				}
				continue
			}
			wq, wr := new(big.Int).DivMod(exact(a), new(big.Int).SetUint64(b), new(big.Int))
			if err != api.OK || exact(q).Cmp(wq) != 0 || rest != wr.Uint64() {
				t.Fatalf("Div(%v, %d): %v, %d, %v", a, b, q, rest, err)
			}
		}
	}
	if q, rest, err := Div(Num{Hi: 1}, 10); q != Of(1844674407370955161) || rest != 6 || err != api.OK {
		t.Errorf("Div of 2^64 by 10: %v, %d, %v", q, rest, err)
	}
}

func TestTexts(t *testing.T) {
	for _, a := range nums() {
		if Text(a) != exact(a).String() {
			t.Fatalf("Text(%v): %s", a, Text(a))
		}
	}
}
