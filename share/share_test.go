package share

import (
	"math/rand"
	"testing"

	"floodgate/api"
	"floodgate/line"
	"floodgate/lines"
	"floodgate/wide"
)

func TestExample(t *testing.T) {
	c := api.Curve{M1: 65536, M2: 65536}
	x := Wake(Child{}, c, 7, 100)
	if !x.Has || x.Time != 7 || x.Run != lines.Start(c, 7, units(100)) {
		t.Error(x)
	}
	x = Took(x, 150)
	if x.Time != 57 {
		t.Error(x)
	}
	if y := Wake(x, c, 30, 150); y.Time != 57 {
		t.Error(y)
	}
	if y := Wake(x, c, 80, 150); y.Time != 80 || y.Run != lines.Start(c, 80, units(150)) {
		t.Error(y)
	}
}

func TestTime(t *testing.T) {
	then, first := line.Line{X: 9, Y: wide.Of(0), M: 65536}, line.Line{X: 12, Y: wide.Of(0), M: 65536}
	for i, c := range []struct {
		r     lines.Run
		total uint64
		want  uint64
	}{
		{lines.Run{Then: then}, 0, 9}, {lines.Run{Then: then}, 5, 14}, {lines.Run{Then: then, First: first}, 5, 14}, {lines.Run{Then: then, First: first, Both: true}, 5, 17},
		{lines.Run{Then: then, First: first, Both: true}, 0, 12}, {lines.Run{Then: first, First: then, Both: true}, 0, 12}, {lines.Run{}, 0, 0}, {lines.Run{}, 1, api.Never},
		{lines.Run{Then: line.Line{X: 1<<64 - 1}}, 0, 1<<64 - 1}, {lines.Run{Then: then}, 1<<64 - 1, api.Never},
	} {
		if x := Time(c.r, c.total); x != c.want {
			t.Errorf("%d: %d", i, x)
		}
	}
}

func TestWithoutARun(t *testing.T) {
	x := Child{Run: lines.Start(api.Curve{M1: 5, M2: 5}, 3, wide.Of(9)), Time: 77}
	if Took(x, 500) != x {
		t.Error("a class without a run took")
	}
	c := api.Curve{M1: 65536, M2: 65536}
	if y := Wake(x, c, 20, 0); y.Run != lines.Start(c, 20, wide.Num{}) || y.Time != 20 {
		t.Error(y)
	}
}

// TestWhatFollows: 21.3 to 21.5.
func TestWhatFollows(t *testing.T) {
	r := rand.New(rand.NewSource(24))
	for range 2000 {
		m := uint64(1 + r.Intn(100000))
		c := api.Curve{M1: m, M2: m}
		if r.Intn(2) == 0 {
			c = api.Curve{M1: m + uint64(1+r.Intn(100000)), D: uint64(1 + r.Intn(200)), M2: m}
		}
		var x Child
		low, total := uint64(r.Intn(50)), uint64(0)
		for range 8 {
			want := low
			if x.Has {
				want = max(low, x.Time)
			}
			if x = Wake(x, c, low, total); x.Time != want {
				t.Fatalf("%v: %v instead of %d", c, x, want)
			}
			for range r.Intn(4) {
				more := uint64(r.Intn(200))
				y := Took(x, total+more)
				if y.Time < x.Time || y.Run != x.Run {
					t.Fatalf("%v, %v", x, y)
				}
				rise, units := y.Time-x.Time, more*api.Unit
				if c.D == 0 && (rise*m+m <= units || rise*m >= units+m) {
					t.Fatalf("%d bytes, slope %d: the virtual time rises by %d", more, m, rise)
				}
				x, total = y, total+more
			}
			low += uint64(r.Intn(300))
		}
	}
}
