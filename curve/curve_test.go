package curve

import (
	"math/rand"
	"testing"

	"floodgate/api"
	"floodgate/wide"
)

func TestKinds(t *testing.T) {
	for i, c := range []struct {
		c    api.Curve
		want Kind
	}{
		{api.Curve{}, None}, {api.Curve{M1: 5, M2: 5}, Linear}, {api.Curve{M1: api.MaxSlope, M2: api.MaxSlope}, Linear},
		{api.Curve{M1: 5, D: 1, M2: 4}, Concave}, {api.Curve{M1: 5, D: api.MaxDelay}, Concave}, {api.Curve{M1: 1, D: 1}, Concave},
		{api.Curve{D: 1, M2: 1}, Convex}, {api.Curve{D: api.MaxDelay, M2: api.MaxSlope}, Convex},
		{api.Curve{M1: 5, D: 1, M2: 5}, Bad}, {api.Curve{D: 1}, Bad}, {api.Curve{M1: 5}, Bad}, {api.Curve{M2: 5}, Bad}, {api.Curve{M1: 5, M2: 4}, Bad},
		{api.Curve{M1: 4, D: 1, M2: 5}, Bad}, {api.Curve{M1: api.MaxSlope + 1, M2: api.MaxSlope + 1}, Bad}, {api.Curve{M1: api.MaxSlope + 1, D: 1}, Bad},
		{api.Curve{D: 1, M2: api.MaxSlope + 1}, Bad}, {api.Curve{M1: 5, D: api.MaxDelay + 1, M2: 4}, Bad}, {api.Curve{D: api.MaxDelay + 1, M2: 4}, Bad},
		{api.Curve{M1: 1<<64 - 1, D: 1<<64 - 1, M2: 1<<64 - 1}, Bad},
	} {
		if k := Of(c.c); k != c.want || Right(c.c) != (c.want != Bad) {
			t.Errorf("%d: %v: %d, %v", i, c.c, k, Right(c.c))
		}
	}
	if Bad != 0 || None != 1 || Linear != 2 || Concave != 3 || Convex != 4 {
		t.Error("the kinds' numbers")
	}
}

func small(r *rand.Rand) api.Curve {
	d := uint64(r.Intn(6) + 1)
	switch r.Intn(4) {
	case 0:
		return api.Curve{}
	case 1:
		m := uint64(r.Intn(5) + 1)
		return api.Curve{M1: m, M2: m}
	case 2:
		m := uint64(r.Intn(5))
		return api.Curve{M1: m + uint64(r.Intn(4)+1), D: d, M2: m}
	}
	return api.Curve{D: d, M2: uint64(r.Intn(5) + 1)}
}

// grown is the service, tick by tick.
func grown(c api.Curve, t uint64) uint64 {
	sum := uint64(0)
	for i := range t {
		if i < c.D {
			sum += c.M1
		} else {
			sum += c.M2
		}
	}
	return sum
}

func TestServiceAndTicks(t *testing.T) {
	r := rand.New(rand.NewSource(3))
	for range 300 {
		c := small(r)
		for n := range uint64(20) {
			if s := Service(c, n); s != wide.Of(grown(c, n)) {
				t.Fatalf("Service(%v, %d): %v", c, n, s)
			}
		}
		for w := range uint64(30) {
			want := uint64(api.Never)
			for n := range uint64(60) {
				if grown(c, n) >= w {
					want = n
					break
				}
			}
			if n := Ticks(c, wide.Of(w)); n != want {
				t.Fatalf("Ticks(%v, %d): %d instead of %d", c, w, n, want)
			}
		}
	}
	c := api.Curve{M1: 3, D: 2, M2: 1}
	if Service(c, 1) != wide.Of(3) || Service(c, 2) != wide.Of(6) || Service(c, 3) != wide.Of(7) || Ticks(c, wide.Of(7)) != 3 {
		t.Error("curve {3, 2, 1}")
	}
}

func TestGreatNumbers(t *testing.T) {
	steep := api.Curve{M1: api.MaxSlope, M2: api.MaxSlope}
	if s := Service(steep, 1<<64-1); s != wide.Mul(api.MaxSlope, 1<<64-1) {
		t.Error(s)
	}
	one := api.Curve{M1: 1, M2: 1}
	for i, c := range []struct {
		c    api.Curve
		w    wide.Num
		want uint64
	}{
		{one, wide.Of(api.Never - 1), api.Never - 1}, {one, wide.Of(api.Never), api.Never}, {one, wide.Of(1<<64 - 1), api.Never}, {one, wide.Num{Hi: 1}, api.Never},
		{api.Curve{D: 10, M2: 1}, wide.Of(api.Never - 11), api.Never - 1}, {api.Curve{D: 10, M2: 1}, wide.Of(api.Never - 10), api.Never}, {api.Curve{D: 10, M2: 1}, wide.Of(api.Never), api.Never}, {api.Curve{D: 10, M2: 1}, wide.Of(1<<64 - 5), api.Never},
		{steep, wide.Num{Hi: 1<<64 - 1, Lo: 1<<64 - 1}, api.Never}, {api.Curve{M1: 2, D: 3}, wide.Of(6), 3}, {api.Curve{M1: 2, D: 3}, wide.Of(7), api.Never},
		{api.Curve{}, wide.Num{}, 0}, {api.Curve{}, wide.Of(1), api.Never}, {api.Curve{D: 5, M2: 1}, wide.Num{}, 0},
		{api.Curve{M1: 1, D: 1, M2: 2}, wide.Num{}, api.Never}, {api.Curve{M1: 1, D: 1, M2: 2}, wide.Of(1), api.Never},
	} {
		if n := Ticks(c.c, c.w); n != c.want {
			t.Errorf("%d: %d", i, n)
		}
	}
	if s := Service(api.Curve{M1: 1, D: 1, M2: 2}, 50); s != (wide.Num{}) {
		t.Error(s)
	}
}

func TestScale(t *testing.T) {
	for n, want := range map[int]uint64{-1 << 63: 0, -1: 0, 0: 0, 1: 65536, 2: 32768, 3: 21845, 65535: 1, 65536: 1, 65537: 0, 1<<63 - 1: 0} {
		if Scale(n) != want {
			t.Errorf("Scale(%d): %d", n, Scale(n))
		}
	}
}

// TestWhatFollows: 4.4 and 4.5.
func TestWhatFollows(t *testing.T) {
	r := rand.New(rand.NewSource(4))
	for range 300 {
		c := small(r)
		for a := range uint64(12) {
			for n := range uint64(12) {
				first, _ := wide.Sub(Service(c, n), wide.Num{})
				other, under := wide.Sub(Service(c, a+n), Service(c, a))
				k := Of(c)
				if under || k == Concave && wide.Compare(first, other) < 0 || k == Convex && wide.Compare(first, other) > 0 {
					t.Fatalf("%v: %d ticks, and those from %d on", c, n, a)
				}
			}
		}
		for w := uint64(1); w < 30; w++ {
			n := Ticks(c, wide.Of(w))
			if n != api.Never && (wide.Compare(Service(c, n), wide.Of(w)) < 0 || wide.Compare(Service(c, n-1), wide.Of(w)) >= 0) {
				t.Fatalf("Ticks(%v, %d): %d", c, w, n)
			}
		}
	}
}
