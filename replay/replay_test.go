package replay

import (
	"reflect"
	"slices"
	"testing"

	"floodgate/api"
	"floodgate/top"
)

func ev(op int, id uint64) api.Event {
	return api.Event{Op: op, Class: 1, Packet: api.Packet{ID: id, Len: 1}}
}

func TestAhead(t *testing.T) {
	o := api.Out{Results: []api.Result{{Class: 1}, {Class: 2}, {Class: 3}}, Events: []api.Event{ev(0, 1), ev(2, 2), ev(2, 3), ev(-1, 4), ev(9, 5)}}
	for i, c := range []struct{ n, results, events int }{{2, 2, 2}, {0, 0, 1}, {-1, 0, 0}, {3, 3, 4}, {4, 3, 4}, {10, 3, 5}, {-1 << 63, 0, 0}, {1<<63 - 1, 3, 5}} {
		a := Ahead(o, c.n)
		if len(a.Results) != c.results || len(a.Events) != c.events || !slices.Equal(a.Results, o.Results[:c.results]) {
			t.Error(i, a)
		}
	}
	a := Ahead(o, 3)
	if !slices.Equal(a.Events, o.Events[:4]) {
		t.Error(a.Events)
	}
	a.Results[0].Class, a.Events[0].Op = 77, 77
	if o.Results[0].Class != 1 || o.Events[0].Op != 0 {
		t.Error("an answer shares memory")
	}
}

func TestDiffer(t *testing.T) {
	r := []api.Result{{Class: 1}, {Class: 2}, {Class: 3}}
	a := api.Out{Results: r, Events: []api.Event{ev(0, 1), ev(2, 2), ev(2, 3), ev(9, 4)}}
	for i, c := range []struct {
		b      api.Out
		at     int
		differ bool
	}{
		{a, 0, false}, {api.Out{Results: r, Events: []api.Event{ev(2, 2), ev(0, 1), ev(2, 3), ev(9, 5), ev(-1, 6)}}, 0, false}, {api.Out{Results: r, Events: []api.Event{ev(0, 1), ev(2, 3), ev(2, 2)}}, 2, true},
		{api.Out{Results: r, Events: []api.Event{ev(0, 1), ev(2, 2)}}, 2, true}, {api.Out{Results: r, Events: []api.Event{ev(0, 1), ev(1, 1), ev(2, 2), ev(2, 3)}}, 1, true}, {api.Out{Results: r, Events: nil}, 0, true},
		{api.Out{Results: r[:2], Events: a.Events}, 2, true}, {api.Out{Results: r[:1], Events: a.Events}, 1, true}, {api.Out{Events: a.Events}, 0, true}, {api.Out{Results: []api.Result{{Class: 1}, {Class: 2, Err: 1}, {Class: 3}}, Events: a.Events}, 1, true},
		{api.Out{Results: r[:2], Events: []api.Event{ev(0, 7)}}, 0, true},
	} {
		if at, ok := Differ(a, c.b); at != c.at || ok != c.differ {
			t.Errorf("%d: %d, %v", i, at, ok)
		}
		if at, ok := Differ(c.b, a); at != c.at || ok != c.differ {
			t.Errorf("%d turned: %d, %v", i, at, ok)
		}
	}
	if at, ok := Differ(api.Out{}, api.Out{Events: []api.Event{ev(0, 1)}}); at != 0 || ok {
		t.Error("an operation without a result", at)
	}
}

func TestFirst(t *testing.T) {
	x := api.Script{Config: api.Config{T: 1, Lmax: 9}, Ops: []api.Op{{Kind: api.OpAdvance, Ticks: 3}, {Kind: 9}, {Kind: api.OpPacket}}}
	for n := -1; n < 5; n++ {
		o, err := First(x, n)
		if n < 0 || n > 3 {
			if err != api.ErrArg || len(o.Results) != 0 {
				t.Error(n, err)
			}
			continue
		}
		want, _ := top.Run(api.Script{Config: x.Config, Ops: x.Ops[:n]})
		if err != api.OK || !reflect.DeepEqual(o, want) || len(o.Results) != n {
			t.Error(n, o, err)
		}
	}
	x.Config.T = 0
	if _, err := First(x, 2); err != api.ErrArg {
		t.Error(err)
	}
	x = api.Script{Config: api.Config{T: 1, Lmax: 9}, Ops: make([]api.Op, api.MaxOps+2)}
	if _, err := First(x, api.MaxOps+1); err != api.ErrLong {
		t.Error(err)
	}
	if o, err := First(x, api.MaxOps); err != api.OK || len(o.Results) != api.MaxOps {
		t.Error(err)
	}
}
