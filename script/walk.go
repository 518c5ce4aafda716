package script

import "floodgate/api"

// The widths of fields, in bytes.
const (
	one   = 1
	two   = 2
	four  = 4
	eight = 8
)

// The greatest numbers of fields whose bytes alone bound them.
const (
	most16 = 1<<16 - 1
	most32 = 1<<32 - 1
	most64 = 1<<64 - 1
)

// walk goes through all fields of a script, for reading and for writing, till an error.
type walk struct {
	// field is given the number of a field, and how many bytes it has, and answers the number that it has then
	field func(v uint64, size int) (uint64, api.Errno)
	err   api.Errno
}

// number goes through a field of a number from least to most.
func (w *walk) number(p *uint64, size int, least, most uint64) {
	if w.err != api.OK {
		return
	}
	v, err := w.field(*p, size)
	switch {
	case err != api.OK:
		w.err = err
	case v < least || v > most:
		w.err = api.ErrForm
	default:
		*p = v
	}
}

// count goes through a field of a number that is an int; one below 0 is above all bounds.
func (w *walk) count(p *int, size int, least, most uint64) {
	v := uint64(*p)
	w.number(&v, size, least, most)
	if w.err == api.OK {
		*p = int(v)
	}
}

// yes goes through a field that says yes or no.
func (w *walk) yes(p *bool) {
	v := uint64(0)
	if *p {
		v = 1
	}
	w.number(&v, one, 0, 1)
	*p = v == 1
}

// row goes through how many things a list has, and then through each of them.
func row[T any](w *walk, l *[]T, size int, most uint64, each func(*T)) {
	n := len(*l)
	w.count(&n, size, 0, most)
	if w.err == api.OK && n != len(*l) {
		*l = make([]T, n)
	}
	for i := range *l {
		if w.err != api.OK {
			return
		}
		each(&(*l)[i])
	}
}

func (w *walk) script(x *api.Script) {
	w.count(&x.Config.T, four, 1, api.MaxT)
	w.count(&x.Config.Lmax, four, 1, api.MaxLen)
	row(w, &x.Ops, two, api.MaxOps, w.op)
}

func (w *walk) op(o *api.Op) {
	w.count(&o.Kind, one, api.OpChange, api.OpAdvance)
	if w.err != api.OK {
		return
	}
	switch o.Kind {
	case api.OpChange:
		row(w, &o.Changes, one, api.MaxChanges, w.change)
	case api.OpRules:
		row(w, &o.Rules, one, api.MaxRules, w.rule)
	case api.OpPacket:
		w.packet(&o.Packet)
	case api.OpAdvance:
		w.number(&o.Ticks, eight, 0, most64)
	}
}

func (w *walk) change(x *api.Change) {
	c := &x.Class
	w.count(&x.Kind, one, api.ChAdd, api.ChSet)
	w.count(&c.ID, four, 0, api.MaxID)
	w.count(&c.Parent, four, 0, api.MaxID)
	w.yes(&c.Leaf)
	for _, y := range [3]*api.Curve{&c.Rt, &c.Ls, &c.Ul} {
		w.number(&y.M1, four, 0, most32)
		w.number(&y.D, four, 0, api.MaxDelay)
		w.number(&y.M2, four, 0, most32)
	}
	w.count(&c.Pkts, one, 0, api.MaxPkts)
	w.count(&c.Bytes, four, 0, api.MaxQueue)
}

func (w *walk) rule(r *api.Rule) {
	w.header(&r.Mask)
	w.header(&r.Want)
	w.count(&r.Class, four, 0, api.MaxID)
}

func (w *walk) header(h *api.Header) {
	for i := range h {
		v := uint64(h[i])
		w.number(&v, two, 0, most16)
		h[i] = uint16(v)
	}
}

func (w *walk) packet(p *api.Packet) {
	w.number(&p.ID, eight, 0, most64)
	w.count(&p.Len, two, 1, api.MaxLen)
	w.header(&p.Head)
}
