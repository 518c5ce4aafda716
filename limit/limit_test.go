package limit

import (
	"math/rand"
	"testing"

	"floodgate/api"
	"floodgate/spans"
	"floodgate/upper"
)

func in(class int, at uint64, n int) api.Event {
	return api.Event{In: true, Class: class, At: at, Packet: api.Packet{Len: n}}
}
func out(class int, at uint64, n int) api.Event {
	return api.Event{Class: class, At: at, Done: at + 9, Packet: api.Packet{Len: n}}
}

var half = api.Curve{M1: 32768, M2: 32768}

func hold(t *testing.T, c api.Curve, lmax int, l []api.Event, leaves []int, place int, broken bool) {
	t.Helper()
	if at, ok := Broken(c, lmax, l, leaves); at != place || ok != broken || Kept(c, lmax, l, leaves) != !broken {
		t.Error(at, ok)
	}
}

func TestExample(t *testing.T) {
	one := []int{1}
	l := []api.Event{in(1, 0, 100), in(1, 0, 100), out(1, 0, 100), out(1, 200, 100)}
	hold(t, half, 100, l, one, 0, false)
	l[3].At = 199
	hold(t, half, 100, l, one, 3, true)
	hold(t, half, 101, l, one, 0, false)
	// of other leaves nothing counts
	hold(t, half, 100, l, []int{2}, 0, false)
	hold(t, half, 100, nil, one, 0, false)
	// a span that is still open counts
	hold(t, half, 100, append(l[:3:3], in(1, 1, 5), out(1, 199, 100), in(1, 300, 1)), one, 4, true)
	// a span begins anew with each wake: 100 bytes each time
	hold(t, half, 100, []api.Event{in(1, 0, 100), out(1, 0, 100), in(1, 1, 100), out(1, 1, 100)}, one, 0, false)
	hold(t, half, 100, []api.Event{in(1, 0, 100), out(1, 0, 100), in(1, 1, 101), out(1, 1, 101)}, one, 3, true)
	// both leaves are one span, and a place in it counts, not the span's
	hold(t, half, 100, []api.Event{in(1, 5, 60), in(2, 5, 60), in(3, 5, 900), out(3, 5, 900), out(1, 5, 60), out(2, 5, 60)}, []int{2, 1, 1}, 5, true)
	// a tick that is not above the span's begin gives nothing; bytes below 0 count as none
	steep := api.Curve{M1: 65536, M2: 65536}
	hold(t, steep, 100, []api.Event{in(1, 500, 60), out(1, 0, 101)}, one, 1, true)
	hold(t, steep, 100, []api.Event{in(1, 500, 60), out(1, 501, 101)}, one, 0, false)
	hold(t, half, 100, []api.Event{in(1, 5, 60), in(1, 5, 60), out(1, 5, -1), out(1, 5, 100)}, one, 0, false)
	hold(t, half, -5, []api.Event{in(1, 5, 60), out(1, 25, 10)}, one, 0, false)
	hold(t, half, -5, []api.Event{in(1, 5, 60), out(1, 25, 11)}, one, 1, true)
	// a pick ahead of all spans, or between them, is of no span
	hold(t, half, 100, []api.Event{out(1, 5, 900), in(1, 5, 60), out(1, 5, 60), out(1, 5, 900)}, one, 0, false)
}

func TestAgainstTheWords(t *testing.T) {
	r := rand.New(rand.NewSource(36))
	broken := 0
	for range 2000 {
		c := []api.Curve{half, {M1: 90000, D: 5, M2: 30000}, {}, {D: 5, M2: 40000}}[r.Intn(4)]
		var l []api.Event
		now := uint64(5)
		for range r.Intn(25) {
			now += uint64(r.Intn(9))
			e := in(r.Intn(3), now, r.Intn(9))
			e.In = r.Intn(2) == 0
			l = append(l, e)
		}
		leaves := []int{0, 1}[:1+r.Intn(2)]
		want, has := 0, false
		for _, s := range spans.Of(l, leaves) {
			bytes := uint64(0)
			for i, e := range l {
				if e.In || e.Class >= len(leaves) || i <= s.First || !s.Open && i > s.Last {
					continue
				}
				bytes += uint64(e.Packet.Len)
				if bytes > upper.Most(c, e.At-s.From, 6) && (!has || i < want) {
					want, has = i, true
				}
			}
		}
		if at, ok := Broken(c, 6, l, leaves); at != want || ok != has || Kept(c, 6, l, leaves) == has {
			t.Fatal(l, at, ok, want, has)
		}
		if has {
			broken++
		}
	}
	if broken < 200 || broken > 1800 {
		t.Error(broken)
	}
}
