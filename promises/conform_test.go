package promises

import (
	"testing"

	"floodgate/api"
	"floodgate/conform"
	"floodgate/top"
)

// TestTheDelayOfWhoConforms: P4, 48.4.
func TestTheDelayOfWhoConforms(t *testing.T) {
	held := 0
	for _, w := range loaded {
		every(100, w, func(seed int64, x api.Script) {
			x.Ops = append(x.Ops, api.Op{Kind: api.OpAdvance, Ticks: 1 << 40})
			out, _ := top.Run(x)
			for _, c := range realLeaves(treeOf(x)) {
				if c.Rt.M2 == 0 {
					continue
				}
				burst, err := conform.Burst(c.Rt.M2, out.Events, c.ID)
				bound, again := conform.Bound(x.Config, c.Rt, burst)
				if err != api.OK || again != api.OK {
					t.Fatal(seed, err, again)
				}
				var came []uint64
				for _, e := range out.Events {
					if e.Class != c.ID {
						continue
					}
					if e.In {
						came = append(came, e.At)
						continue
					}
					if e.Done > came[0]+bound {
						t.Fatalf("%d: %v came at %d, and the bound is %d", seed, e, came[0], bound)
					}
					came = came[1:]
					held++
				}
			}
		})
	}
	if held < 3000 {
		t.Error(held)
	}
}
