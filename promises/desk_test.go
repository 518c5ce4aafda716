package promises

import (
	"slices"
	"strings"
	"testing"

	"floodgate/api"
	"floodgate/desk"
	"floodgate/inspect"
	"floodgate/state"
	"floodgate/sweep"
	"floodgate/top"
	"floodgate/trace"
)

// TestSweptComesToTheSame: P1, 41.3.
func TestSweptComesToTheSame(t *testing.T) {
	every(200, all, func(seed int64, x api.Script) {
		// more that comes to nothing, and steps to be joined
		for i := 5; i < len(x.Ops); i += 7 {
			x.Ops = slices.Insert(x.Ops, i, api.Op{Kind: api.OpAdvance, Ticks: uint64(i % 3 * 10)}, api.Op{Kind: -1}, api.Op{Kind: api.OpAdvance, Ticks: 5})
		}
		y, places := sweep.Sweep(x), sweep.Places(x)
		a, _ := top.Run(x)
		b, err := top.Run(y)
		if err != api.OK || len(y.Ops) >= len(x.Ops) {
			t.Fatal(seed, err)
		}
		for i := range a.Events {
			a.Events[i].Op = places[a.Events[i].Op]
		}
		if !slices.Equal(a.Events, b.Events) {
			t.Fatal(seed)
		}
		for i, at := range places {
			if at >= 0 && y.Ops[at].Kind != api.OpAdvance && a.Results[i] != b.Results[at] {
				t.Fatal(seed, i)
			}
		}
	})
}

func dots(h api.Header) string {
	var out []string
	for _, v := range h {
		out = append(out, inspect.Tens(uint64(v)))
	}
	return strings.Join(out, ".")
}

func tens(v int) string { return inspect.Tens(uint64(v)) }

// linesOf are the lines of an operation, if it has lines.
func linesOf(o api.Op) ([]string, bool) {
	var out []string
	switch o.Kind {
	case api.OpChange:
		for _, c := range o.Changes {
			text, err := inspect.Class(c.Class)
			if err != api.OK {
				return nil, false
			}
			out = append(out, []string{"add " + text, "del " + tens(c.Class.ID), "set " + text}[c.Kind-1])
		}
		return append(out, "commit"), true
	case api.OpRules:
		for _, r := range o.Rules {
			out = append(out, "rule "+dots(r.Mask)+" "+dots(r.Want)+" "+tens(r.Class))
		}
		return append(out, "rules"), true
	case api.OpPacket:
		p := o.Packet
		return []string{"put " + inspect.Tens(p.ID) + " " + tens(p.Len) + " " + dots(p.Head)}, p.Len >= 0 && p.Len < 1<<31
	case api.OpAdvance:
		return []string{"go " + inspect.Tens(o.Ticks)}, true
	}
	return nil, false
}

// wanted is the answer to the last of an operation's lines.
func wanted(o api.Op, r api.Result, events []api.Event) []string {
	switch {
	case r.Err != api.OK && o.Kind == api.OpChange:
		return []string{"? " + tens(int(r.Err)) + " " + tens(r.Place)}
	case r.Err != api.OK:
		return []string{"? " + tens(int(r.Err))}
	}
	out := []string{"ok"}
	if o.Kind == api.OpPacket {
		out[0] += " " + tens(r.Class)
	}
	for _, e := range events {
		s, _ := trace.Line(e)
		out = append(out, s)
	}
	return out
}

// TestTheDesk: P1, 42.3 and 42.4.
func TestTheDesk(t *testing.T) {
	every(120, all, func(seed int64, x api.Script) {
		s, _ := top.New(x.Config)
		d := desk.New()
		d.Line("link " + tens(x.Config.T) + " " + tens(x.Config.Lmax))
		var said, answers []string
		said = append(said, "link "+tens(x.Config.T)+" "+tens(x.Config.Lmax))
		answers = append(answers, "ok")
		for i, o := range x.Ops {
			lines, ok := linesOf(o)
			if !ok {
				continue
			}
			r, events := s.Do(o)
			for _, l := range lines[:len(lines)-1] {
				if got := d.Line(l); !slices.Equal(got, []string{"ok"}) {
					t.Fatal(seed, i, l, got)
				}
				answers = append(answers, "ok")
			}
			got := d.Line(lines[len(lines)-1])
			if !slices.Equal(got, wanted(o, r, events)) {
				t.Fatal(seed, i, lines, got)
			}
			said, answers = append(said, lines...), append(answers, got...)
			if before := state.Of(s); !slices.Equal(d.Line("show"), inspect.Tree(s)) || len(d.Line("clock"))+len(d.Line("class 1")) != 2 || !state.Same(before, state.Of(s)) {
				t.Fatal(seed, i)
			}
		}
		if got := desk.Run(said); !slices.Equal(got, answers) {
			t.Fatal(seed)
		}
	})
}
