package trace

import (
	"math/rand"
	"slices"
	"strings"
	"testing"

	"floodgate/api"
)

func TestExample(t *testing.T) {
	e := api.Event{Op: 2, In: true, At: 5, Class: 3, Packet: api.Packet{ID: 7, Len: 100, Head: api.Header{1, 0, 0, 2}}}
	if s, err := Line(e); s != "2 in 5 3 7 100 1 0 0 2" || err != api.OK {
		t.Error(s, err)
	}
	e.In, e.Done = false, 105
	if s, err := Line(e); s != "2 share 5 105 3 7 100 1 0 0 2" || err != api.OK {
		t.Error(s, err)
	}
	e.Real = true
	if s, err := Line(e); s != "2 real 5 105 3 7 100 1 0 0 2" || err != api.OK {
		t.Error(s, err)
	}
}

func TestBytesBetweenTicks(t *testing.T) {
	in := func(class int, at uint64, n int) api.Event {
		return api.Event{In: true, Class: class, At: at, Done: 3, Packet: api.Packet{Len: n}}
	}
	out := func(class int, at, done uint64, n int) api.Event {
		return api.Event{Class: class, At: at, Done: done, Packet: api.Packet{Len: n}}
	}
	l := []api.Event{in(1, 5, 1), in(2, 5, 2), in(1, 7, 4), in(3, 7, 8), in(1, 9, -100), out(1, 5, 6, 16), out(2, 6, 10, 32), out(1, 7, 10, 64), out(1, 9, 9, -100), out(3, 5, 10, 128)}
	both := []int{2, 1, 2, 1}
	for i, c := range []struct{ got, want uint64 }{
		{Came(l, both, 5, 7), 7}, {Came(l, both, 6, 7), 4}, {Came(l, both, 5, 6), 3}, {Came(l, both, 7, 5), 0}, {Came(l, []int{1}, 0, 1<<64-1), 5}, {Came(l, nil, 0, 99), 0}, {Came(nil, both, 0, 99), 0},
		{Begun(l, both, 5, 7), 112}, {Begun(l, both, 6, 6), 32}, {Begun(l, both, 7, 99), 64}, {Begun(l, []int{3}, 5, 5), 128}, {Begun(l, []int{9}, 0, 99), 0},
		{Sent(l, both, 5, 10), 112}, {Sent(l, both, 6, 10), 96}, {Sent(l, both, 5, 9), 16}, {Sent(l, both, 10, 99), 0}, {Sent(l, both, 9, 10), 96},
		{Came([]api.Event{in(1, 0, 1<<63-1), in(1, 0, 1<<63-1), in(1, 0, 5)}, []int{1}, 0, 0), 3},
	} {
		if c.got != c.want {
			t.Errorf("%d: %d instead of %d", i, c.got, c.want)
		}
	}
}

func TestLinesThatMayNotBe(t *testing.T) {
	for i, e := range []api.Event{{Op: -1}, {Class: -1}, {Packet: api.Packet{Len: -1}}, {In: true, Done: 1}, {In: true, Real: true}} {
		if s, err := Line(e); s != "" || err != api.ErrForm {
			t.Error(i, s, err)
		}
	}
	for s, want := range map[string]api.Errno{
		"": api.ErrForm, "2": api.ErrForm, "2 in": api.ErrForm, "2 in 5 3 7 100 1 0 0": api.ErrForm, "2 in 5 3 7 100 1 0 0 2 3": api.ErrForm, "2 in 5 105 3 7 100 1 0 0 2": api.ErrForm,
		"2 share 5 3 7 100 1 0 0 2": api.ErrForm, "2 out 5 105 3 7 100 1 0 0 2": api.ErrForm, "2 In 5 3 7 100 1 0 0 2": api.ErrForm, "2 in  5 3 7 100 1 0 0 2": api.ErrForm, " 2 in 5 3 7 100 1 0 0 2": api.ErrForm, "2 in 5 3 7 100 1 0 0 2 ": api.ErrForm,
		"02 in 5 3 7 100 1 0 0 2": api.ErrForm, "2 in +5 3 7 100 1 0 0 2": api.ErrForm, "2 in -5 3 7 100 1 0 0 2": api.ErrForm, "2 in 5 3 7 100 1 00 0 2": api.ErrForm, "2 in 5 3 7 1\xff0 1 0 0 2": api.ErrForm, "2 in 5 3 ٣ 100 1 0 0 2": api.ErrForm,
		"9223372036854775808 in 5 3 7 100 1 0 0 2": api.ErrOver, "2 in 18446744073709551616 3 7 100 1 0 0 2": api.ErrOver, "2 in 5 9223372036854775808 7 100 1 0 0 2": api.ErrOver, "2 in 5 3 18446744073709551616 100 1 0 0 2": api.ErrOver,
		"2 in 5 3 7 9223372036854775808 1 0 0 2": api.ErrOver, "2 in 5 3 7 100 65536 0 0 2": api.ErrOver, "2 in 5 3 7 100 1 0 0 99999": api.ErrOver, "2 real 5 18446744073709551616 3 7 100 1 0 0 2": api.ErrOver,
		// of several words the first one is told; a word that is too great is a number all the same
		"2 in 5 3 7 100 65536 x 0 2": api.ErrOver, "2 in 5 3 7 100 x 65536 0 2": api.ErrForm, "2 in 99999999999999999999999999x 3 7 100 1 0 0 2": api.ErrForm, "2 in 99999999999999999999999999 3 7 100 1 0 0 2": api.ErrOver,
		"2 in 5 3 7 100 1 0 0 " + strings.Repeat("9", 279): api.ErrOver, "2 in 5 3 7 100 1 0 0 " + strings.Repeat("9", 280): api.ErrLong, strings.Repeat(" ", 301): api.ErrLong, strings.Repeat("x ", 150): api.ErrForm,
	} {
		if e, err := Parse(s); e != (api.Event{}) || err != want {
			t.Errorf("%q: %v, %v instead of %v", s, e, err, want)
		}
	}
	if e, err := Parse("9223372036854775807 share 18446744073709551615 18446744073709551615 9223372036854775807 18446744073709551615 9223372036854775807 65535 65535 0 65535"); err != api.OK || e.Packet.Len != mostInt || e.Op != mostInt || e.Done != most64 || e.Packet.Head != (api.Header{most16, most16, 0, most16}) {
		t.Error(e, err)
	}
}

func some(r *rand.Rand) api.Event {
	e := api.Event{Op: r.Int() >> r.Intn(63), In: r.Intn(2) == 0, At: r.Uint64() >> r.Intn(64), Class: r.Int() >> r.Intn(63), Packet: api.Packet{ID: r.Uint64() >> r.Intn(64), Len: r.Int() >> r.Intn(63), Head: api.Header{uint16(r.Intn(9)), uint16(r.Uint32())}}}
	if !e.In {
		e.Done, e.Real = r.Uint64()>>r.Intn(64), r.Intn(2) == 0
	}
	return e
}

// TestRoundTrips: 30.4.
func TestRoundTrips(t *testing.T) {
	r := rand.New(rand.NewSource(31))
	for range 1000 {
		e := some(r)
		s, err := Line(e)
		back, again := Parse(s)
		if back != e || err != api.OK || again != api.OK {
			t.Fatal(e, s, back, err, again)
		}
		b := []byte(s)
		b[r.Intn(len(b))] = "0123456789 inreal"[r.Intn(17)]
		if e, err := Parse(string(b)); err == api.OK {
			if line, err := Line(e); line != string(b) || err != api.OK {
				t.Fatalf("%q: %q", b, line)
			}
		}
	}
}

// TestStretches: 30.5.
func TestStretches(t *testing.T) {
	r := rand.New(rand.NewSource(32))
	for range 500 {
		l := make([]api.Event, r.Intn(20))
		for i := range l {
			l[i] = api.Event{In: r.Intn(3) == 0, At: uint64(r.Intn(20)), Done: uint64(r.Intn(30)), Class: r.Intn(3), Packet: api.Packet{Len: r.Intn(50) - 5}}
		}
		kept := slices.Clone(l)
		classes := []int{r.Intn(3), r.Intn(3)}
		for from := range uint64(20) {
			for mid := from; mid < 20; mid++ {
				if Begun(l, classes, from, mid)+Begun(l, classes, mid+1, 20) != Begun(l, classes, from, 20) || Sent(l, classes, from, mid)+Sent(l, classes, mid, 20) != Sent(l, classes, from, 20) || Came(l, classes, from, mid)+Came(l, classes, mid+1, 20) != Came(l, classes, from, 20) {
					t.Fatal(l, from, mid)
				}
			}
		}
		if !slices.Equal(l, kept) {
			t.Fatal("the list is changed")
		}
	}
}
