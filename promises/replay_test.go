package promises

import (
	"math/rand"
	"reflect"
	"testing"

	"floodgate/api"
	"floodgate/inspect"
	"floodgate/replay"
	"floodgate/top"
)

// TestWhatComesLater: 39.3 and 39.4.
func TestWhatComesLater(t *testing.T) {
	every(60, all, func(seed int64, x api.Script) {
		r := rand.New(rand.NewSource(seed))
		whole, _ := top.Run(x)
		if at, ok := replay.Differ(whole, whole); at != 0 || ok {
			t.Fatal(seed, at)
		}
		for range 8 {
			n := r.Intn(len(x.Ops) + 1)
			first, err := replay.First(x, n)
			ahead := replay.Ahead(whole, n)
			if err != api.OK || len(first.Results) != n || len(first.Results)+len(first.Events) > 0 && !same(first, ahead) {
				t.Fatal(seed, n, err)
			}
			if at, ok := replay.Differ(first, ahead); ok {
				t.Fatal(seed, n, at)
			}
			// another script that is the same up to n
			y := api.Script{Config: x.Config, Ops: append(append([]api.Op(nil), x.Ops[:n]...), made(seed+500, all).Ops...)}
			other, _ := top.Run(y)
			if at, ok := replay.Differ(whole, other); ok && at < n {
				t.Fatal(seed, n, at)
			}
		}
	})
}

func same(a, b api.Out) bool {
	return (len(a.Results)+len(b.Results) == 0 || reflect.DeepEqual(a.Results, b.Results)) && (len(a.Events)+len(b.Events) == 0 || reflect.DeepEqual(a.Events, b.Events))
}

// TestTheTreeIsWhole: 40.6: as many lines as classes.
func TestTheTreeIsWhole(t *testing.T) {
	every(40, all, func(seed int64, x api.Script) {
		steps(t, x, func(i int, s *top.System, _ []api.Event) {
			if len(inspect.Tree(s)) != len(s.Classes()) {
				t.Fatal(seed, i)
			}
		})
	})
}
