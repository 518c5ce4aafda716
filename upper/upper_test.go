package upper

import (
	"math/rand"
	"testing"

	"floodgate/api"
	"floodgate/lines"
	"floodgate/wide"
)

func TestExample(t *testing.T) {
	c := api.Curve{M1: 65536, M2: 65536}
	x := Wake(Cap{}, c, 10, 100)
	if !x.Has || x.Fit != 0 || x.Run != lines.Start(c, 10, units(100)) {
		t.Error(x)
	}
	if x = Took(x, 150); x.Fit != 60 {
		t.Error(x)
	}
	if y := Wake(x, c, 20, 150); y.Fit != 60 || y.Run != x.Run {
		t.Error(y)
	}
	if y := Wake(x, c, 90, 150); y.Fit != 0 || y.Run != lines.Start(c, 90, units(150)) {
		t.Error(y)
	}
	if Most(c, 60, 9) != 69 {
		t.Error(Most(c, 60, 9))
	}
}

func TestKinds(t *testing.T) {
	x := Cap{Has: true, Run: lines.Start(api.Curve{M1: 5, M2: 5}, 3, wide.Of(9)), Fit: 77}
	for i, c := range []struct {
		c     api.Curve
		empty bool
	}{{api.Curve{}, true}, {api.Curve{M1: 1, D: 1, M2: 2}, true}, {api.Curve{M1: 1 << 40, M2: 1 << 40}, true}, {api.Curve{M1: 5, M2: 5}, false}, {api.Curve{M1: 5, D: 9}, false}, {api.Curve{D: 9, M2: 3}, false}} {
		y := Wake(x, c.c, 50, 7)
		if (y == Cap{}) != c.empty || y.Has == c.empty {
			t.Errorf("%d: %v", i, y)
		}
		if !c.empty && y.Run != lines.Meet(x.Run, lines.Start(c.c, 50, units(7))) {
			t.Errorf("%d: %v", i, y)
		}
	}
	x.Has = false
	if Took(x, 500) != x {
		t.Error("a class without a limit took")
	}
	if y := Wake(x, api.Curve{M1: 5, M2: 5}, 50, 7); y.Run != lines.Start(api.Curve{M1: 5, M2: 5}, 50, units(7)) {
		t.Error(y)
	}
	if y := Took(Wake(Cap{}, api.Curve{M1: 5, D: 9}, 0, 0), 1); y.Fit != api.Never {
		t.Error(y)
	}
}

func TestInnerAndMost(t *testing.T) {
	for i, c := range [][3]uint64{{0, 0, 0}, {5, 3, 5}, {3, 5, 5}, {api.Never, 1, api.Never}, {1, 1<<64 - 1, 1<<64 - 1}} {
		if Inner(c[0], c[1]) != c[2] {
			t.Error(i)
		}
	}
	one, steep := api.Curve{M1: 65536, M2: 65536}, api.Curve{M1: api.MaxSlope, M2: api.MaxSlope}
	for i, c := range []struct {
		c     api.Curve
		ticks uint64
		lmax  int
		want  uint64
	}{
		{one, 0, 9, 9}, {one, 5, 0, 5}, {one, 5, -1, 5}, {one, 5, -1 << 63, 5}, {api.Curve{M1: 65535, M2: 65535}, 5, 1, 5}, {api.Curve{M1: 65536, D: 3, M2: 32768}, 6, 1, 5},
		{api.Curve{}, 500, 7, 7}, {api.Curve{M1: 1, D: 1, M2: 2}, 500, 7, 7}, {api.Curve{D: 4, M2: 65536}, 6, 1, 3},
		{one, 1<<64 - 1, 0, 1<<64 - 1}, {one, 1<<64 - 1, 1, 1<<64 - 1}, {one, 1<<64 - 2, 1, 1<<64 - 1}, {one, 1<<64 - 3, 1, 1<<64 - 2}, {steep, 1 << 60, 1, 1<<64 - 1},
	} {
		if v := Most(c.c, c.ticks, c.lmax); v != c.want {
			t.Errorf("%d: %d", i, v)
		}
	}
}

// TestWhatFollows: 22.4.
func TestWhatFollows(t *testing.T) {
	r := rand.New(rand.NewSource(25))
	for range 2000 {
		m := uint64(1 + r.Intn(100000))
		c := api.Curve{M1: m, M2: m}
		if r.Intn(2) == 0 {
			c = api.Curve{M1: m + uint64(1+r.Intn(100000)), D: uint64(1 + r.Intn(200)), M2: m}
		}
		var x Cap
		type wake struct{ at, total uint64 }
		var wakes []wake
		now, total, lmax := uint64(0), uint64(0), 1+r.Intn(60)
		for range 20 {
			if r.Intn(2) == 0 || len(wakes) == 0 {
				x = Wake(x, c, now, total)
				wakes = append(wakes, wake{now, total})
			}
			if x.Fit <= now {
				total += uint64(1 + r.Intn(lmax))
				x = Took(x, total)
			}
			for _, w := range wakes {
				if total-w.total > Most(c, now-w.at, lmax) {
					t.Fatalf("%v: %d bytes in %d ticks, lmax %d", c, total-w.total, now-w.at, lmax)
				}
			}
			now += uint64(r.Intn(50))
		}
	}
}
