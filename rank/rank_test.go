package rank

import (
	"testing"

	"floodgate/api"
)

func keys() []Key {
	var out []Key
	for _, at := range []uint64{0, 1, 2, api.Never - 1, api.Never, 1<<64 - 1} {
		for _, id := range []int{-1 << 63, -1, 0, 1, 2, 1<<63 - 1} {
			out = append(out, Key{at, id})
		}
	}
	return out
}

// TestOneRow: 12.1 and 12.2; the list of keys rises.
func TestOneRow(t *testing.T) {
	l := keys()
	for i, a := range l {
		for j, b := range l {
			want := 0
			if i < j {
				want = -1
			} else if i > j {
				want = 1
			}
			if Compare(a, b) != want {
				t.Fatalf("Compare(%v, %v): %d", a, b, Compare(a, b))
			}
			if Least(a, b) != l[min(i, j)] {
				t.Fatalf("Least(%v, %v): %v", a, b, Least(a, b))
			}
		}
	}
	if Compare(Key{3, 9}, Key{4, 1}) != -1 || Compare(Key{4, 1}, Key{4, 2}) != -1 {
		t.Error("{3, 9}, {4, 1}, {4, 2}")
	}
}

func TestDueAndNever(t *testing.T) {
	for i, c := range []struct {
		at, now uint64
		want    bool
	}{
		{0, 0, true}, {5, 4, false}, {5, 5, true}, {5, 6, true}, {api.Never - 1, api.Never, true}, {api.Never - 1, api.Never - 1, true},
		{api.Never, api.Never, false}, {api.Never, 1<<64 - 1, false}, {1<<64 - 1, 1<<64 - 1, false}, {api.Never, 0, false},
	} {
		if Due(Key{At: c.at, ID: 3}, c.now) != c.want {
			t.Error(i)
		}
	}
	if Never(7) != (Key{At: api.Never, ID: 7}) || Never(-1) != (Key{At: api.Never, ID: -1}) {
		t.Error("Never")
	}
}
