package core

import (
	"floodgate/api"
	"floodgate/real"
	"floodgate/share"
	"floodgate/spec"
	"floodgate/upper"
	"floodgate/vtree"
)

// children is the table of a class's active children.
func (s *Sched) children(id int) *vtree.Table {
	if s.shares[id] == nil {
		s.shares[id] = vtree.New()
	}
	return s.shares[id]
}

// fit is the tick from which a class fits.
func (s *Sched) fit(e *entry) uint64 {
	if e.class.Leaf || !s.active.Is(e.class.ID) {
		return e.limit.Fit
	}
	return upper.Inner(e.limit.Fit, s.shares[e.class.ID].Fit())
}

// renew puts the active classes of a way up into their parents' tables, as they are now: from the leaf on, since an inner class fits by what is below it.
func (s *Sched) renew(way []int) {
	for _, id := range way {
		if s.active.Is(id) {
			e := s.entries[id]
			s.children(e.class.Parent).Set(id, e.share.Time, s.fit(e))
		}
	}
}

// wake is told that a packet came to a leaf's empty queue.
func (s *Sched) wake(leaf *entry, now uint64) {
	id := leaf.class.ID
	if spec.Real(leaf.class) {
		leaf.dues = real.Wake(leaf.dues, leaf.class.Rt, now, leaf.Head())
		s.due.Set(id, leaf.dues.Eligible, leaf.dues.Deadline)
	}
	// of a leaf that does not share none becomes active
	woken, _ := s.active.On(id)
	for _, up := range woken {
		e := s.entries[up]
		// the class itself is not in the table yet: the least of none is 0
		low, _ := s.children(e.class.Parent).Low()
		e.share = share.Wake(e.share, e.class.Ls, low, e.total)
		e.limit = upper.Wake(e.limit, e.class.Ul, now, e.total)
	}
	s.renew(s.tree.Up(id))
}

// shared is the leaf that is picked by link-share.
func (s *Sched) shared(now uint64) (int, bool) {
	for id := root; ; {
		child, ok := s.shares[id].Pick(now)
		if !ok {
			return 0, false
		}
		if s.entries[child].class.Leaf {
			return child, true
		}
		id = child
	}
}

// picked takes the first packet of a leaf that is picked.
func (s *Sched) picked(id int, byReal bool) Pick {
	leaf := s.entries[id]
	p, _ := leaf.Pop()
	way := s.tree.Up(id)
	for _, up := range way {
		e := s.entries[up]
		e.total += uint64(p.Len)
		e.share = share.Took(e.share, e.total)
		e.limit = upper.Took(e.limit, e.total)
	}
	if spec.Real(leaf.class) {
		s.settle(leaf, p, byReal)
	}
	if leaf.Len() == 0 {
		s.rest(id)
	}
	s.renew(way)
	return Pick{Class: id, Packet: p, Real: byReal}
}

// settle renews the dues of a leaf of which a packet was picked.
func (s *Sched) settle(leaf *entry, p api.Packet, byReal bool) {
	if byReal {
		leaf.dues = real.Took(leaf.dues, p.Len, leaf.Head())
	} else {
		leaf.dues = real.Passed(leaf.dues, leaf.Head())
	}
	if leaf.Len() == 0 {
		s.due.Drop(leaf.class.ID)
		return
	}
	s.due.Set(leaf.class.ID, leaf.dues.Eligible, leaf.dues.Deadline)
}

// rest is told that a leaf's queue is empty.
func (s *Sched) rest(leaf int) {
	passive, _ := s.active.Off(leaf)
	for _, id := range passive {
		parent := s.entries[id].class.Parent
		s.children(parent).Drop(id)
		s.forget(id)
		if parent == root && !s.active.Is(root) {
			s.forget(root)
		}
	}
}

// forget empties the shares of the children of what became passive.
func (s *Sched) forget(id int) {
	delete(s.shares, id)
	for _, child := range s.tree.Children(id) {
		s.entries[child].share = share.Child{}
	}
}
