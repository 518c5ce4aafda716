package meter

import (
	"math/rand"
	"testing"

	"floodgate/api"
)

func TestExample(t *testing.T) {
	m, _ := New(100, 1)
	if e := m.Add(10, 80); e != api.OK {
		t.Fatal(e)
	}
	for _, c := range [][2]uint64{{50, 0}, {99, 0}, {150, 40 << 16}, {250, 20 << 16}, {299, 20 << 16}, {300, 10 << 16}} {
		if v, e := m.Average(c[0]); v != c[1] || e != api.OK {
			t.Error(c, v, e)
		}
	}
}

func TestNew(t *testing.T) {
	for i, c := range []struct {
		window uint64
		shift  int
		want   api.Errno
	}{{0, 0, api.ErrArg}, {1, 0, api.OK}, {1 << 32, 8, api.OK}, {1<<32 + 1, 0, api.ErrArg}, {1, -1, api.ErrArg}, {1, 9, api.ErrArg}, {1<<64 - 1, 0, api.ErrArg}} {
		m, e := New(c.window, c.shift)
		if e != c.want || (m == nil) != (e != api.OK) {
			t.Error(i, e)
		}
		if v, e := Of(nil, nil, c.window, c.shift); v != 0 || e != c.want {
			t.Error(i, v, e)
		}
	}
}

func TestErrors(t *testing.T) {
	m, _ := New(100, 1)
	m.Add(250, 7)
	for i, c := range []struct {
		at    uint64
		bytes int
		want  api.Errno
	}{{199, -1, api.ErrLen}, {199, 1, api.ErrClock}, {0, 0, api.ErrClock}, {api.MaxClock + 1, 1, api.ErrClock}, {1<<64 - 1, 1, api.ErrClock}, {200, 1, api.OK}, {299, 0, api.OK}} {
		if e := m.Add(c.at, c.bytes); e != c.want {
			t.Error(i, e)
		}
		if v, e := m.Average(c.at); c.bytes >= 0 && (v != 0 || e != c.want) {
			t.Error(i, v, e)
		}
	}
	if n, b := m.Open(); n != 2 || b != 8 {
		t.Error(n, b)
	}
	if e := m.Add(api.MaxClock, 1); e != api.OK {
		t.Error(e)
	}
	if n, b := m.Open(); n != api.MaxClock/100 || b != 1 {
		t.Error(n, b)
	}
	for _, m := range []*Meter{nil, {}} {
		v, e := m.Average(0)
		n, b := m.Open()
		if m.Add(0, 1) != api.ErrState || m.Add(0, -1) != api.ErrState || v != 0 || e != api.ErrState || n != 0 || b != 0 {
			t.Error("nil")
		}
	}
}

func TestManyBytes(t *testing.T) {
	m, _ := New(1, 0)
	m.Add(0, 1<<63-1)
	m.Add(0, 5)
	if _, b := m.Open(); b != 1<<40 {
		t.Error(b)
	}
	if v, _ := m.Average(1); v != 1<<56 {
		t.Error(v)
	}
	if v, _ := m.Average(2); v != 0 {
		t.Error(v)
	}
	m.Add(2, 1<<40-1)
	m.Add(2, 2)
	if _, b := m.Open(); b != 1<<40 {
		t.Error(b)
	}
}

// TestWindowByWindow: 47.1, 47.2 and 47.4.
func TestWindowByWindow(t *testing.T) {
	r := rand.New(rand.NewSource(47))
	for range 300 {
		window, shift := uint64(1+r.Intn(20)), r.Intn(9)
		m, _ := New(window, shift)
		var average, bytes, open, most, now uint64
		for range 60 {
			now += uint64(r.Intn(4)) * uint64(r.Intn(100))
			for ; open < now/window; open++ {
				average = average - average>>shift + bytes<<16>>shift
				bytes = 0
			}
			if r.Intn(2) == 0 {
				n := r.Intn(2000)
				bytes += uint64(n)
				most = max(most, bytes)
				m.Add(now, n)
			} else if v, e := m.Average(now); v != average || e != api.OK || v > most<<16 {
				t.Fatal(v, average, e)
			}
			if n, b := m.Open(); n != open || b != bytes {
				t.Fatal(n, b, open, bytes)
			}
		}
	}
}

// TestDown: 47.5.
func TestDown(t *testing.T) {
	for shift := range 9 {
		m, _ := New(1, shift)
		m.Add(0, 1<<40)
		v, e := m.Average(api.MaxClock)
		if e != api.OK || v>>shift != 0 {
			t.Error(shift, v)
		}
		if n, b := m.Open(); n != api.MaxClock || b != 0 {
			t.Error(n, b)
		}
	}
}

func TestOf(t *testing.T) {
	out := func(class int, at uint64, n int) api.Event {
		return api.Event{Class: class, At: at, Packet: api.Packet{Len: n}}
	}
	in := func(at uint64, n int) api.Event {
		return api.Event{In: true, Class: 1, At: at, Packet: api.Packet{Len: n}}
	}
	for i, c := range []struct {
		l    []api.Event
		want uint64
		err  api.Errno
	}{
		{nil, 0, api.OK}, {[]api.Event{out(1, 10, 80), out(3, 150, 500)}, 40 << 16, api.OK}, {[]api.Event{out(1, 10, 80), in(250, 500)}, 20 << 16, api.OK}, {[]api.Event{out(1, 10, 50), out(2, 20, 30), out(1, 150, 9)}, 40 << 16, api.OK},
		{[]api.Event{out(1, 150, 50), out(1, 99, 30)}, 0, api.ErrClock}, {[]api.Event{out(1, 150, 50), out(3, 99, 30)}, 0, api.ErrClock}, {[]api.Event{out(1, 150, 50), in(99, 30), out(1, 151, 1)}, 0, api.OK}, {[]api.Event{out(1, 150, -1), out(1, 99, 30)}, 0, api.ErrLen},
		{[]api.Event{out(1, api.MaxClock+1, 1)}, 0, api.ErrClock}, {[]api.Event{out(3, api.MaxClock+1, 1)}, 0, api.ErrClock}, {[]api.Event{out(3, 1<<63, -1), out(1, 5, 1)}, 0, api.OK}, {[]api.Event{in(5, -1)}, 0, api.OK},
	} {
		if v, e := Of(c.l, []int{2, 1, 1}, 100, 1); v != c.want || e != c.err {
			t.Errorf("%d: %d, %v", i, v, e)
		}
	}
}
