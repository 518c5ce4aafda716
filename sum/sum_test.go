package sum

import (
	"math/rand"
	"slices"
	"testing"

	"floodgate/api"
	"floodgate/curve"
	"floodgate/wide"
)

func small(r *rand.Rand) api.Curve {
	d, m := uint64(r.Intn(5)+1), uint64(r.Intn(4))
	return [5]api.Curve{{}, {M1: m + 1, M2: m + 1}, {M1: m + 2, D: d, M2: m}, {D: d, M2: m + 1}, {M1: 1, D: d, M2: m + 2}}[r.Intn(5)]
}

func several(r *rand.Rand) []api.Curve {
	l := make([]api.Curve, r.Intn(6))
	for i := range l {
		l[i] = small(r)
	}
	return l
}

func TestExample(t *testing.T) {
	l := []api.Curve{{M1: 3, D: 2, M2: 1}, {D: 4, M2: 5}}
	if !slices.Equal(Knees(l), []uint64{2, 4}) || Slope(l) != wide.Of(6) || Service(l, 5) != wide.Of(14) || Steepest(l) != wide.Of(8) {
		t.Error(Knees(l), Slope(l), Service(l, 5), Steepest(l))
	}
}

func TestSums(t *testing.T) {
	r := rand.New(rand.NewSource(10))
	for range 1000 {
		l := several(r)
		kept := slices.Clone(l)
		for n := range uint64(12) {
			want := uint64(0)
			for _, c := range l {
				want += curve.Service(c, n).Lo
			}
			if Service(l, n) != wide.Of(want) {
				t.Fatalf("Service(%v, %d): %v", l, n, Service(l, n))
			}
		}
		var slope, steep uint64
		knees := map[uint64]int{}
		for _, c := range l {
			if !curve.Right(c) {
				continue
			}
			slope += c.M2
			steep += max(c.M1, c.M2)
			if c.D > 0 {
				knees[c.D]++
			}
		}
		got := Knees(l)
		if Slope(l) != wide.Of(slope) || Steepest(l) != wide.Of(steep) || len(got) != len(knees) || !slices.IsSorted(got) {
			t.Fatalf("%v: %v, %v, %v", l, Slope(l), Steepest(l), got)
		}
		for _, k := range got {
			if knees[k] == 0 {
				t.Fatalf("%v: knee %d", l, k)
			}
		}
		if !slices.Equal(l, kept) {
			t.Fatal("the list is changed")
		}
	}
}

func TestEdges(t *testing.T) {
	none, great := wide.Num{}, api.Curve{M1: api.MaxSlope, M2: api.MaxSlope}
	if Service(nil, 5) != none || len(Knees(nil)) != 0 || Slope(nil) != none || Steepest([]api.Curve{}) != none {
		t.Error("of no curves there is none")
	}
	l := []api.Curve{{M1: 1 << 40, D: 2, M2: 1}, {M1: 2, D: 2, M2: 9}, {D: 1 << 40, M2: 3}}
	if Service(l, 50) != none || len(Knees(l)) != 0 || Slope(l) != none || Steepest(l) != none {
		t.Error("curves that may not be count")
	}
	l = []api.Curve{great, great, great}
	want := wide.Mul(3*api.MaxSlope, 1<<64-1)
	if Service(l, 1<<64-1) != want || Slope(l) != wide.Of(3*api.MaxSlope) {
		t.Error(Service(l, 1<<64-1), Slope(l))
	}
}

// TestWhatFollows: 7.2 and 7.3.
func TestWhatFollows(t *testing.T) {
	r := rand.New(rand.NewSource(11))
	for range 500 {
		l := several(r)
		knees := Knees(l)
		for n := uint64(1); n < 12; n++ {
			if s := Service(l, n); wide.Compare(s, wide.Mul(n, Steepest(l).Lo)) > 0 {
				t.Fatalf("%v: %v in %d ticks", l, s, n)
			}
			if slices.Contains(knees, n) {
				continue
			}
			before, _ := wide.Sub(Service(l, n), Service(l, n-1))
			behind, _ := wide.Sub(Service(l, n+1), Service(l, n))
			if before != behind {
				t.Fatalf("%v bends at %d", l, n)
			}
		}
	}
}
