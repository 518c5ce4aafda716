package sweep

import (
	"math/rand"
	"reflect"
	"slices"
	"testing"

	"floodgate/api"
	"floodgate/script"
)

func ticks(n uint64) api.Op { return api.Op{Kind: api.OpAdvance, Ticks: n} }

var (
	pkt  = api.Op{Kind: api.OpPacket, Packet: api.Packet{ID: 1, Len: 5}}
	none = api.Op{Kind: 9, Ticks: 4}
)

func TestSweep(t *testing.T) {
	for i, c := range []struct {
		ops, want []api.Op
		places    []int
		clock     uint64
	}{
		{[]api.Op{ticks(5), pkt, ticks(0), ticks(3), ticks(4)}, []api.Op{ticks(5), pkt, ticks(7)}, []int{0, 1, -1, 2, 2}, 12},
		{nil, nil, nil, 0}, {[]api.Op{ticks(0), none}, nil, []int{-1, -1}, 0},
		{[]api.Op{ticks(5), ticks(0), none, ticks(3), ticks(1 << 62), pkt, pkt}, []api.Op{ticks(8), pkt, pkt}, []int{0, -1, -1, 0, -1, 1, 2}, 8},
		{[]api.Op{ticks(api.MaxClock), ticks(1), pkt, ticks(1<<64 - 1), ticks(1)}, []api.Op{ticks(api.MaxClock), pkt}, []int{0, -1, 1, -1, -1}, api.MaxClock},
		{[]api.Op{ticks(api.MaxClock - 1), ticks(2), ticks(1), ticks(1)}, []api.Op{ticks(api.MaxClock)}, []int{0, -1, 0, -1}, api.MaxClock},
		{[]api.Op{{Kind: 0}, {Kind: -1}, {Kind: 5}, {Kind: api.OpRules, Ticks: 7}, {Kind: api.OpChange}}, []api.Op{{Kind: api.OpRules}, {Kind: api.OpChange}}, []int{-1, -1, -1, 0, 1}, 0},
	} {
		x := api.Script{Config: api.Config{T: -3, Lmax: 7}, Ops: c.ops}
		kept := slices.Clone(c.ops)
		if y := Sweep(x); y.Config != x.Config || !reflect.DeepEqual(y.Ops, c.want) {
			t.Errorf("%d: %v", i, y)
		}
		if !slices.Equal(Places(x), c.places) || Ticks(x) != c.clock || !reflect.DeepEqual(c.ops, kept) {
			t.Errorf("%d: %v, %d", i, Places(x), Ticks(x))
		}
	}
}

// TestWhatFollows: 41.2.
func TestWhatFollows(t *testing.T) {
	r := rand.New(rand.NewSource(39))
	for range 500 {
		var x api.Script
		for range r.Intn(1500) {
			x.Ops = append(x.Ops, []api.Op{pkt, none, ticks(0), ticks(3), ticks(1 << 61), {Kind: api.OpChange, Changes: []api.Change{{Kind: 1}}}}[r.Intn(6)])
		}
		y, places := Sweep(x), Places(x)
		if len(y.Ops) > len(x.Ops) || len(places) != len(x.Ops) || Ticks(y) != Ticks(x) || !reflect.DeepEqual(Sweep(y), y) || !reflect.DeepEqual(script.Plain(y), y) {
			t.Fatal(x, y)
		}
		for i, at := range Places(y) {
			if at != i {
				t.Fatal(y)
			}
		}
	}
}
