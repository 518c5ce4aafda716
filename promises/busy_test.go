package promises

import (
	"slices"
	"testing"

	"floodgate/api"
	"floodgate/audit"
	"floodgate/busy"
	"floodgate/top"
)

// sharing are scripts in which every leaf Shares, and no class is Capped.
var sharing = []wish{{shared: true, real: true, ops: 80}, {shared: true, ops: 80}, {straight: true, ops: 80}}

// TestTheLinkDoesNotWait: P7, 35.3 and 35.4.
func TestTheLinkDoesNotWait(t *testing.T) {
	waited := 0
	for _, w := range sharing {
		every(100, w, func(seed int64, x api.Script) {
			var last *top.System
			events := steps(t, x, func(i int, s *top.System, events []api.Event) {
				if busy.Work(events) > 0 {
					waited++
					if s.Until() <= s.Clock() {
						t.Fatal(seed, i, "the link is free, and there is work")
					}
				}
				if packets, _ := s.Backlog(); packets != busy.Work(events) || busy.Until(events) != s.Until() {
					t.Fatal(seed, i, packets, busy.Work(events))
				}
				last = s
			})
			if at, late := busy.Late(events); late {
				t.Fatal(seed, at)
			}
			_, bytes := last.Backlog()
			rest := uint64(bytes * x.Config.T)
			if last.Until() > last.Clock() {
				rest += last.Until() - last.Clock()
			}
			_, more := last.Do(api.Op{Kind: api.OpAdvance, Ticks: rest})
			events = append(events, more...)
			if busy.Work(events) != 0 || busy.Until(events) > last.Clock() {
				t.Fatal(seed, "not all is sent")
			}
			sent := uint64(0)
			for _, e := range events {
				if !e.In {
					sent += e.Done - e.At
				}
			}
			if busy.Sending(events) != sent {
				t.Fatal(seed, busy.Sending(events), sent)
			}
		})
	}
	if waited < 1000 {
		t.Error(waited)
	}
}

// TestNoEventIsWrong: P2, 36.3 and 36.4.
func TestNoEventIsWrong(t *testing.T) {
	for _, w := range []wish{all, loaded[1], sharing[0]} {
		every(80, w, func(seed int64, x api.Script) {
			events := steps(t, x, func(i int, s *top.System, events []api.Event) {
				if f := audit.Check(x.Config, events); f != (audit.Found{}) {
					t.Fatal(seed, i, f)
				}
				for _, id := range s.Classes() {
					if w := audit.Waiting(events, id); !slices.Equal(w, s.Packets(id)) {
						t.Fatal(seed, i, id, w)
					}
				}
			})
			sent := map[uint64]int{}
			for _, e := range events {
				if !e.In {
					if sent[e.Done]++; sent[e.Done] > 1 {
						t.Fatal(seed, e)
					}
				}
			}
		})
	}
}
