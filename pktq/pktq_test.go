package pktq

import (
	"math/rand"
	"slices"
	"testing"

	"floodgate/api"
)

func TestNew(t *testing.T) {
	for i, c := range []struct {
		pkts, bytes int
		want        api.Errno
	}{
		{1, 1, api.OK}, {api.MaxPkts, api.MaxQueue, api.OK}, {0, 1, api.ErrArg}, {-1, 1, api.ErrArg}, {api.MaxPkts + 1, 1, api.ErrArg},
		{1, 0, api.ErrArg}, {1, -1, api.ErrArg}, {1, api.MaxQueue + 1, api.ErrArg}, {0, 0, api.ErrArg},
	} {
		q, e := New(c.pkts, c.bytes)
		if e != c.want || (q == nil) != (e != api.OK) || q.Len() != 0 || q.Counts() != (Counts{}) {
			t.Errorf("%d: %v", i, e)
		}
	}
}

func TestExample(t *testing.T) {
	q, _ := New(2, 100)
	for i, c := range []struct {
		n    int
		want api.Errno
	}{{60, api.OK}, {50, api.ErrDrop}, {40, api.OK}, {1, api.ErrDrop}, {0, api.ErrLen}, {-1, api.ErrLen}, {api.MaxLen + 1, api.ErrLen}} {
		if e := q.Push(api.Packet{Len: c.n}); e != c.want {
			t.Errorf("%d: %v", i, e)
		}
	}
	if q.Counts() != (Counts{In: 2, Drops: 2, BytesIn: 100, BytesDrops: 51}) || q.Head() != 60 || q.Len() != 2 || q.Bytes() != 100 {
		t.Error(q.Counts(), q.Head(), q.Len(), q.Bytes())
	}
	q, _ = New(1, api.MaxQueue)
	if e := q.Push(api.Packet{Len: api.MaxLen}); e != api.OK || q.Bytes() != api.MaxLen {
		t.Error(e)
	}
	// there is room for bytes, but not for a packet
	q, _ = New(1, 100)
	if q.Push(api.Packet{Len: 1}) != api.OK || q.Push(api.Packet{Len: 1}) != api.ErrDrop {
		t.Error("one packet more than has room")
	}
}

func TestNilAndEmpty(t *testing.T) {
	var q *Queue
	if q.Push(api.Packet{Len: 1}) != api.ErrState || q.Head() != 0 || q.Len() != 0 || q.Bytes() != 0 || q.Counts() != (Counts{}) || len(q.Packets()) != 0 {
		t.Error("nil")
	}
	if p, e := q.Pop(); p != (api.Packet{}) || e != api.ErrState {
		t.Error(p, e)
	}
	q = new(Queue)
	if p, e := q.Pop(); p != (api.Packet{}) || e != api.ErrNone || q.Push(api.Packet{Len: 1}) != api.ErrDrop || len(q.Packets()) != 0 || q.Head() != 0 {
		t.Error(p, e)
	}
}

func bytesOf(l []api.Packet) int {
	n := 0
	for _, p := range l {
		n += p.Len
	}
	return n
}

// TestAgainstAList: 11.1 to 11.4.
func TestAgainstAList(t *testing.T) {
	r := rand.New(rand.NewSource(16))
	for range 60 {
		pkts, most := 1+r.Intn(5), 1+r.Intn(40)
		q, _ := New(pkts, most)
		var l []api.Packet
		var want Counts
		for id := range uint64(150) {
			if r.Intn(5) < 3 {
				p := api.Packet{ID: id, Len: r.Intn(20), Head: api.Header{uint16(r.Intn(9))}}
				n := uint64(p.Len)
				err := api.OK
				switch {
				case p.Len < 1:
					err = api.ErrLen
				case len(l) == pkts || bytesOf(l)+p.Len > most:
					err = api.ErrDrop
					want.Drops, want.BytesDrops = want.Drops+1, want.BytesDrops+n
				default:
					l = append(l, p)
					want.In, want.BytesIn = want.In+1, want.BytesIn+n
				}
				if e := q.Push(p); e != err {
					t.Fatal(e, err)
				}
			} else if p, e := q.Pop(); len(l) == 0 {
				if p != (api.Packet{}) || e != api.ErrNone {
					t.Fatal(p, e)
				}
			} else {
				if p != l[0] || e != api.OK {
					t.Fatal(p, e, l)
				}
				want.Out, want.BytesOut = want.Out+1, want.BytesOut+uint64(p.Len)
				l = l[1:]
			}
			head := 0
			if len(l) > 0 {
				head = l[0].Len
			}
			c := q.Counts()
			if q.Head() != head || q.Len() != len(l) || q.Bytes() != bytesOf(l) || c != want || !slices.Equal(q.Packets(), l) {
				t.Fatal(q.Head(), q.Len(), q.Bytes(), c, want, l)
			}
			if c.In != c.Out+uint64(q.Len()) || c.BytesIn != c.BytesOut+uint64(q.Bytes()) {
				t.Fatal(c)
			}
		}
		// what is told is not what is kept
		if p := q.Packets(); len(p) > 0 {
			p[0].ID = 1 << 60
			if q.Packets()[0].ID == 1<<60 {
				t.Fatal("an answer shares memory")
			}
		}
	}
}
