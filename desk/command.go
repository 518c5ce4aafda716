package desk

import (
	"strings"

	"floodgate/api"
	"floodgate/inspect"
	"floodgate/top"
)

const ok = "ok"

// command is what a line asks for; it does its work at a desk, and answers.
type command interface {
	do(d *Desk) []string
}

type (
	linkLine   struct{ config api.Config }
	changeLine struct{ change api.Change }
	commitLine struct{}
	ruleLine   struct{ rule api.Rule }
	rulesLine  struct{}
	putLine    struct{ packet api.Packet }
	goLine     struct{ ticks uint64 }
	forgetLine struct{}
	showLine   struct{}
	clockLine  struct{}
	classLine  struct{ id int }
)

func (c linkLine) do(d *Desk) []string {
	if d.system != nil {
		give(api.ErrState)
	}
	system, err := top.New(c.config)
	give(err)
	d.system = system
	return []string{ok}
}

func (c changeLine) do(d *Desk) []string {
	if len(d.changes) >= api.MaxChanges {
		give(api.ErrLong)
	}
	d.changes = append(d.changes, c.change)
	return []string{ok}
}

func (commitLine) do(d *Desk) []string {
	o := api.Op{Kind: api.OpChange, Changes: d.changes}
	s := d.running()
	d.changes = nil
	r, events := s.Do(o)
	if r.Err != api.OK {
		panic(refusal{err: r.Err, placed: true, place: r.Place})
	}
	return told(ok, events)
}

func (c ruleLine) do(d *Desk) []string {
	if len(d.rules) >= api.MaxRules {
		give(api.ErrLong)
	}
	d.rules = append(d.rules, c.rule)
	return []string{ok}
}

func (rulesLine) do(d *Desk) []string {
	o := api.Op{Kind: api.OpRules, Rules: d.rules}
	s := d.running()
	d.rules = nil
	r, events := s.Do(o)
	give(r.Err)
	return told(ok, events)
}

func (c putLine) do(d *Desk) []string {
	r, events := d.running().Do(api.Op{Kind: api.OpPacket, Packet: c.packet})
	give(r.Err)
	return told(ok+" "+number(r.Class), events)
}

func (c goLine) do(d *Desk) []string {
	r, events := d.running().Do(api.Op{Kind: api.OpAdvance, Ticks: c.ticks})
	give(r.Err)
	return told(ok, events)
}

func (forgetLine) do(d *Desk) []string {
	d.changes, d.rules = nil, nil
	return []string{ok}
}

func (showLine) do(d *Desk) []string { return inspect.Tree(d.running()) }

func (clockLine) do(d *Desk) []string {
	s := d.running()
	next := "never"
	if s.Next() < api.Never {
		next = inspect.Tens(s.Next())
	}
	packets, bytes := s.Backlog()
	return joined("clock", inspect.Tens(s.Clock()), "until", inspect.Tens(s.Until()), "next", next, "backlog", number(packets), number(bytes))
}

func (c classLine) do(d *Desk) []string {
	r := d.running().Row(c.id)
	return joined("sent", inspect.Tens(r.Packets), inspect.Tens(r.Bytes), "real", inspect.Tens(r.Real), "waited", inspect.Tens(r.Waited), "longest", inspect.Tens(r.Longest))
}

// joined is an answer of one line.
func joined(words ...string) []string { return []string{strings.Join(words, " ")} }
