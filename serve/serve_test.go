package serve

import (
	"math/rand"
	"testing"

	"floodgate/api"
	"floodgate/curve"
	"floodgate/spans"
	"floodgate/trace"
	"floodgate/wide"
)

var one = api.Curve{M1: 65536, M2: 65536}

func in(at uint64, n int) api.Event {
	return api.Event{In: true, Class: 1, At: at, Packet: api.Packet{Len: n}}
}
func out(at, done uint64, n int) api.Event {
	return api.Event{Class: 1, At: at, Done: done, Packet: api.Packet{Len: n}}
}

var badLinks = []api.Config{{}, {T: 1}, {Lmax: 1}, {T: api.MaxT + 1, Lmax: 1}, {T: 1, Lmax: api.MaxLen + 1}, {T: -1, Lmax: -1}}

func TestSlackAndAsked(t *testing.T) {
	x := api.Config{T: 2, Lmax: 100}
	if Slack(x) != 201 || Asked(x, one, 301) != wide.Of(6553600) || Asked(x, one, 200) != (wide.Num{}) || Asked(x, one, 201) != (wide.Num{}) || Asked(x, one, 202) != wide.Of(65536) {
		t.Error(Slack(x), Asked(x, one, 301))
	}
	if Slack(api.Config{T: api.MaxT, Lmax: api.MaxLen}) != 1<<30+1 {
		t.Error("the greatest slack")
	}
	for _, x := range badLinks {
		if Slack(x) != 0 || Asked(x, one, 1000) != (wide.Num{}) || Kept(x, one, nil, 1, 0) {
			t.Error(x)
		}
		if at, ok := Broken(x, one, []api.Event{in(0, 1)}, 7); at != 0 || !ok {
			t.Error(x, at, ok)
		}
		if at, ok := Broken(x, one, nil, 7); at != 0 || ok {
			t.Error(x, at, ok)
		}
	}
}

// TestKept: with T 1 and Lmax 10 a leaf of a byte a tick may wait 20 ticks, and one more is too many.
func TestKept(t *testing.T) {
	x := api.Config{T: 1, Lmax: 10}
	l := []api.Event{in(100, 10)}
	for now, want := range map[uint64]bool{0: false, 99: false, 100: true, 120: true, 121: false, 1 << 62: false} {
		if Kept(x, one, l, 1, now) != want {
			t.Error(now)
		}
	}
	if !Kept(x, one, l, 2, 1<<62) || !Kept(x, one, nil, 1, 1<<62) {
		t.Error("a leaf without packets is not served")
	}
	// bytes count when they are sent
	l = append(l, in(100, 10), out(109, 119, 10))
	for now, want := range map[uint64]bool{118: true, 119: true, 121: true, 130: true, 131: false} {
		if Kept(x, one, l, 1, now) != want {
			t.Error(now)
		}
	}
	// one span that keeps is enough: here the later one, which begins at 135
	l = append(l, out(119, 129, 10), in(135, 10))
	for now, want := range map[uint64]bool{135: true, 140: true, 155: true, 156: false} {
		if Kept(x, one, l, 1, now) != want {
			t.Error(now)
		}
	}
	// and here the earlier one, in which more was sent than was asked
	early := []api.Event{in(0, 10), in(0, 10), in(0, 10), in(0, 10), out(0, 10, 10), out(10, 20, 10), out(20, 30, 10), out(30, 40, 10), in(40, 10)}
	if !Kept(x, one, early, 1, 60) || Kept(x, one, early, 1, 61) {
		t.Error("the earlier span")
	}
	// no curve asks nothing, but a span that has not begun is none
	if Kept(x, api.Curve{}, []api.Event{in(100, 10)}, 1, 99) {
		t.Error("a span that has not begun")
	}
	if !Kept(x, api.Curve{}, l, 1, 1<<62) {
		t.Error("what no curve asks")
	}
}

func TestBroken(t *testing.T) {
	x := api.Config{T: 1, Lmax: 10}
	l := []api.Event{in(100, 10), {In: true, Class: 2, At: 120}, {In: true, Class: 2, At: 121}, {In: true, Class: 2, At: 122}}
	if at, ok := Broken(x, one, l, 1); at != 2 || !ok {
		t.Error(at, ok)
	}
	if at, ok := Broken(x, one, l[:2], 1); at != 0 || ok {
		t.Error(at, ok)
	}
	if at, ok := Broken(x, one, l, 3); at != 0 || ok {
		t.Error(at, ok)
	}
}

// kept is what the words say.
func kept(x api.Config, c api.Curve, l []api.Event, now uint64) bool {
	if !spans.Backlogged(l, []int{1}) {
		return true
	}
	for _, s := range spans.Of(l, []int{1}) {
		if s.From > now {
			continue
		}
		asked := uint64(0)
		if slack := uint64(x.T*x.Lmax + 1); now-s.From >= slack {
			asked = curve.Service(c, now-s.From-slack).Lo
		}
		if (trace.Sent(l, []int{1}, s.From, now)+uint64(x.Lmax))*api.Unit > asked {
			return true
		}
	}
	return false
}

func TestAgainstTheWords(t *testing.T) {
	r := rand.New(rand.NewSource(34))
	broken := 0
	for range 1000 {
		x := api.Config{T: 1 + r.Intn(2), Lmax: 1 + r.Intn(5)}
		c := []api.Curve{one, {D: 7, M2: 100000}, {M1: 90000, D: 5, M2: 30000}}[r.Intn(3)]
		var l []api.Event
		now := uint64(0)
		for range r.Intn(25) {
			now += uint64(r.Intn(9))
			e := in(now, 1+r.Intn(x.Lmax))
			if r.Intn(2) == 0 {
				e = out(now, now+uint64(r.Intn(5)), 1+r.Intn(x.Lmax))
			}
			e.Class = r.Intn(3)
			l = append(l, e)
		}
		want, has := 0, false
		for i := range l {
			if !kept(x, c, l[:i], l[i].At) {
				want, has = i, true
				break
			}
		}
		if at, ok := Broken(x, c, l, 1); at != want || ok != has {
			t.Fatal(l, at, ok, want, has)
		}
		if has {
			broken++
		}
		for now := range uint64(60) {
			if Kept(x, c, l, 1, now) != kept(x, c, l, now) {
				t.Fatal(l, now)
			}
		}
	}
	if broken < 100 || broken > 900 {
		t.Error(broken)
	}
}
