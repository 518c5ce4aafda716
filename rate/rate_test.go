package rate

import (
	"math/big"
	"math/rand"
	"testing"

	"floodgate/api"
)

func TestRatesAndTimes(t *testing.T) {
	for s, c := range map[string]struct {
		want uint64
		err  api.Errno
	}{
		"64kbit": {64000, api.OK}, "1bit": {1, api.OK}, "1000000000000bit": {1e12, api.OK}, "1000gbit": {1e12, api.OK}, "7mbit": {7e6, api.OK}, "3gbit": {3e9, api.OK},
		"1001gbit": {0, api.ErrOver}, "1000000000001bit": {0, api.ErrOver}, "99999999999999999999999kbit": {0, api.ErrOver}, "1000000001kbit": {0, api.ErrOver}, "1000000000000gbit": {0, api.ErrOver},
		"0bit": {0, api.ErrArg}, "0gbit": {0, api.ErrArg}, "00bit": {0, api.ErrForm}, "": {0, api.ErrForm}, "5": {0, api.ErrForm}, "bit": {0, api.ErrForm}, "kbit": {0, api.ErrForm}, "5 kbit": {0, api.ErrForm}, " 5kbit": {0, api.ErrForm}, "5kbit ": {0, api.ErrForm}, "5Kbit": {0, api.ErrForm},
		"5tbit": {0, api.ErrForm}, "5kkbit": {0, api.ErrForm}, "-5bit": {0, api.ErrForm}, "1.5kbit": {0, api.ErrForm}, "05bit": {0, api.ErrForm}, "5kbits": {0, api.ErrForm}, "99999999999999999999999xkbit": {0, api.ErrForm}, "5ms": {0, api.ErrForm},
	} {
		if v, e := Rate(s); v != c.want || e != c.err {
			t.Errorf("Rate(%q): %d, %v", s, v, e)
		}
	}
	for s, c := range map[string]struct {
		want uint64
		err  api.Errno
	}{
		"10ms": {10000, api.OK}, "0s": {0, api.OK}, "0us": {0, api.OK}, "0ms": {0, api.OK}, "1000s": {1e9, api.OK}, "1000000000us": {1e9, api.OK}, "1000000ms": {1e9, api.OK}, "7s": {7e6, api.OK},
		"1001s": {0, api.ErrOver}, "1000000001us": {0, api.ErrOver}, "1000001ms": {0, api.ErrOver}, "18446744073709551616s": {0, api.ErrOver}, "1000000000s": {0, api.ErrOver},
		"": {0, api.ErrForm}, "5": {0, api.ErrForm}, "s": {0, api.ErrForm}, "us": {0, api.ErrForm}, "5 s": {0, api.ErrForm}, "05s": {0, api.ErrForm}, "5ns": {0, api.ErrForm}, "5uss": {0, api.ErrForm}, "5bit": {0, api.ErrForm},
	} {
		if v, e := Time(s); v != c.want || e != c.err {
			t.Errorf("Time(%q): %d, %v", s, v, e)
		}
	}
}

func TestShortest(t *testing.T) {
	for v, want := range map[uint64]string{0: "", 1: "1bit", 999: "999bit", 1000: "1kbit", 64000: "64kbit", 1001: "1001bit", 1e6: "1mbit", 1500000: "1500kbit", 1e9: "1gbit", 1e12: "1000gbit", 1e12 + 1: "", 1<<64 - 1: ""} {
		if s := RateText(v); s != want {
			t.Errorf("RateText(%d): %q", v, s)
		}
	}
	for v, want := range map[uint64]string{0: "0s", 1: "1us", 1000: "1ms", 1500: "1500us", 2e6: "2s", 2500000: "2500ms", 1e9: "1000s", 1e9 + 1: "", 1<<64 - 1: ""} {
		if s := TimeText(v); s != want {
			t.Errorf("TimeText(%d): %q", v, s)
		}
	}
	// 43.4
	r := rand.New(rand.NewSource(40))
	for range 2000 {
		bits, us := 1+uint64(r.Int63n(1e12))>>r.Intn(40), uint64(r.Int63n(1e9+1))>>r.Intn(30)
		for _, step := range []uint64{1, 1e3, 1e6} {
			bits, us := max(bits/step*step, 1), us/step*step
			if v, e := Rate(RateText(bits)); v != bits || e != api.OK {
				t.Fatal(bits, v, e)
			}
			if v, e := Time(TimeText(us)); v != us || e != api.OK {
				t.Fatal(us, v, e)
			}
		}
	}
}

func TestByAClock(t *testing.T) {
	type answer struct {
		v uint64
		e api.Errno
	}
	slope := func(b, h uint64) answer { v, e := Slope(b, h); return answer{v, e} }
	ticks := func(u, h uint64) answer { v, e := Ticks(u, h); return answer{v, e} }
	bytes := func(b, h uint64) answer { v, e := Byte(b, h); return answer{uint64(v), e} }
	for i, c := range []struct{ got, want answer }{
		{slope(64000, 1e6), answer{524, api.OK}}, {slope(1, 1), answer{8192, api.OK}}, {slope(1, 1e9), answer{0, api.OK}}, {slope(1e12, 1), answer{0, api.ErrOver}}, {slope(524287, 1), answer{524287 * 8192, api.OK}}, {slope(524288, 1), answer{0, api.ErrOver}}, {slope(1e12, 1e9), answer{8192000, api.OK}},
		{slope(0, 1), answer{0, api.ErrArg}}, {slope(1e12+1, 1), answer{0, api.ErrArg}}, {slope(1, 0), answer{0, api.ErrArg}}, {slope(1e12, 1e9+1), answer{0, api.ErrArg}}, {slope(1<<63, 1), answer{0, api.ErrArg}},
		{ticks(10000, 1e6), answer{10000, api.OK}}, {ticks(0, 1e9), answer{0, api.OK}}, {ticks(1, 1), answer{1, api.OK}}, {ticks(1e6, 1), answer{1, api.OK}}, {ticks(1e6+1, 1), answer{2, api.OK}}, {ticks(1<<20, 1e6), answer{1 << 20, api.OK}}, {ticks(1<<20+1, 1e6), answer{0, api.ErrOver}}, {ticks(1e9, 1e9), answer{0, api.ErrOver}},
		{ticks(1e9+1, 1), answer{0, api.ErrArg}}, {ticks(1, 0), answer{0, api.ErrArg}}, {ticks(1, 1e9+1), answer{0, api.ErrArg}},
		{bytes(8e6, 1e6), answer{1, api.OK}}, {bytes(8e6+1, 1e6), answer{1, api.OK}}, {bytes(8e6-1, 1e6), answer{2, api.OK}}, {bytes(1, 8192), answer{65536, api.OK}}, {bytes(1, 8193), answer{0, api.ErrOver}}, {bytes(1, 1e9), answer{0, api.ErrOver}}, {bytes(1e12, 1), answer{1, api.OK}},
		{bytes(0, 1), answer{0, api.ErrArg}}, {bytes(1e12+1, 1), answer{0, api.ErrArg}}, {bytes(1, 0), answer{0, api.ErrArg}}, {bytes(1, 1e9+1), answer{0, api.ErrArg}},
	} {
		if c.got != c.want {
			t.Errorf("%d: %v instead of %v", i, c.got, c.want)
		}
	}
}

func TestCurves(t *testing.T) {
	for i, c := range []struct {
		s    string
		hz   uint64
		want api.Curve
		err  api.Errno
	}{
		{"-", 1e6, api.Curve{}, api.OK}, {"64kbit", 1e6, api.Curve{M1: 524, M2: 524}, api.OK}, {"8mbit 10ms 64kbit", 1e6, api.Curve{M1: 65536, D: 10000, M2: 524}, api.OK}, {"1bit 10us 1mbit", 1e6, api.Curve{D: 10, M2: 8192}, api.OK}, {"1bit", 1e9, api.Curve{}, api.OK},
		{"-", 0, api.Curve{}, api.ErrArg}, {"x y", 1e9 + 1, api.Curve{}, api.ErrArg}, {"", 1, api.Curve{}, api.ErrForm}, {"1bit 1s", 1, api.Curve{}, api.ErrForm}, {"1bit 1s 1bit 1bit", 1, api.Curve{}, api.ErrForm}, {"1bit  1bit", 1, api.Curve{}, api.ErrForm}, {" 1bit", 1, api.Curve{}, api.ErrForm}, {"- 1s 1bit", 1, api.Curve{}, api.ErrForm}, {"1s 1s 1bit", 1, api.Curve{}, api.ErrForm}, {"1bit 1bit 1bit", 1, api.Curve{}, api.ErrForm},
		{"0bit 1x 1bit", 1, api.Curve{}, api.ErrArg}, {"1mbit x 1bit", 1, api.Curve{}, api.ErrOver}, {"1bit 1001s x", 1, api.Curve{}, api.ErrOver}, {"1bit 1000s x", 1e6, api.Curve{}, api.ErrOver}, {"1bit 10s x", 1, api.Curve{}, api.ErrForm}, {"1bit 1s 1mbit", 1, api.Curve{}, api.ErrOver}, {"1bit 1s 0bit", 1, api.Curve{}, api.ErrArg},
		{"64kbit 10ms 64kbit", 1e6, api.Curve{}, api.ErrCurve}, {"64kbit 10ms 65kbit", 1e6, api.Curve{}, api.ErrCurve}, {"64kbit 0s 1kbit", 1e6, api.Curve{}, api.ErrCurve}, {"1bit 10ms 1bit", 1e6, api.Curve{}, api.ErrCurve}, {"1bit 0s 1bit", 1e6, api.Curve{}, api.OK},
	} {
		if x, e := Curve(c.s, c.hz); x != c.want || e != c.err {
			t.Errorf("%d: %v, %v", i, x, e)
		}
	}
}

// TestWhatFollows: 43.5 and 43.6.
func TestWhatFollows(t *testing.T) {
	r := rand.New(rand.NewSource(41))
	for range 5000 {
		a, b, us, hz := 1+uint64(r.Int63n(5e11))>>r.Intn(39), 1+uint64(r.Int63n(5e11))>>r.Intn(39), uint64(r.Int63n(1e9+1))>>r.Intn(30), 1+uint64(r.Int63n(1e9))>>r.Intn(30)
		x, e := Slope(a, hz)
		y, f := Slope(b, hz)
		both, g := Slope(a+b, hz)
		if g == api.OK && (e != api.OK || f != api.OK || x+y > both) {
			t.Fatal(a, b, hz, x, y, both)
		}
		n, e := Ticks(us, hz)
		if e != api.OK {
			continue
		}
		// ticks over hz seconds are at least the time, and with one tick less they are not
		asked := new(big.Int).Mul(new(big.Int).SetUint64(us), new(big.Int).SetUint64(hz))
		has := func(n uint64) int {
			return new(big.Int).Mul(new(big.Int).SetUint64(n), big.NewInt(1e6)).Cmp(asked)
		}
		if has(n) < 0 || n > 0 && has(n-1) >= 0 {
			t.Fatal(us, hz, n)
		}
	}
}
