package conform

import (
	"math/rand"
	"testing"

	"floodgate/api"
)

func in(at uint64, n int) api.Event {
	return api.Event{In: true, Class: 1, At: at, Packet: api.Packet{Len: n}}
}

var wire = api.Config{T: 1, Lmax: 100}

func TestExample(t *testing.T) {
	l := []api.Event{in(0, 100), in(0, 100), in(50, 100)}
	if b, e := Burst(65536, l, 1); b != 250 || e != api.OK || !Conforms(65536, 250, l, 1) || Conforms(65536, 249, l, 1) {
		t.Error(b, e)
	}
	if b, e := Bound(wire, api.Curve{M1: 65536, M2: 65536}, 250); b != 350 || e != api.OK {
		t.Error(b, e)
	}
}

func TestBurst(t *testing.T) {
	other, pick := in(1, 900), in(2, 900)
	other.Class, pick.In = 2, false
	for i, c := range []struct {
		slope uint64
		l     []api.Event
		want  uint64
		err   api.Errno
	}{
		{65536, nil, 0, api.OK}, {65536, []api.Event{other, pick}, 0, api.OK}, {65536, []api.Event{in(5, -9)}, 0, api.OK}, {65536, []api.Event{in(5, 7), other, in(5, -9), pick, in(5, 7)}, 14, api.OK},
		{1, []api.Event{in(0, 1), in(1, 1)}, 2, api.OK}, {65535, []api.Event{in(0, 1), in(1, 1)}, 2, api.OK}, {65536, []api.Event{in(0, 1), in(1, 1)}, 1, api.OK}, {65537, []api.Event{in(0, 9), in(8, 9)}, 10, api.OK}, {65536, []api.Event{in(0, 9), in(8, 9)}, 10, api.OK}, {65535, []api.Event{in(0, 9), in(8, 9)}, 11, api.OK},
		{api.MaxSlope, []api.Event{in(0, 1<<30), in(1<<64-1, 5)}, 1 << 30, api.OK}, {1, []api.Event{in(0, 1<<40)}, 1 << 40, api.OK}, {1, []api.Event{in(0, 1<<40), in(0, 1)}, 0, api.ErrBytes}, {1, []api.Event{in(0, 1<<63-1), in(0, 1<<63-1), in(0, 5)}, 0, api.ErrBytes}, {1, []api.Event{in(0, 1<<40), in(1<<50, 1)}, 0, api.ErrBytes},
		{0, []api.Event{in(5, 1), in(4, 1)}, 0, api.ErrArg}, {api.MaxSlope + 1, nil, 0, api.ErrArg}, {1, []api.Event{in(5, 1), in(4, 1)}, 0, api.ErrClock}, {1, []api.Event{in(5, 1<<50), in(4, 1)}, 0, api.ErrClock}, {1, []api.Event{in(5, 0), other, in(5, 0)}, 0, api.OK},
	} {
		if b, e := Burst(c.slope, c.l, 1); b != c.want || e != c.err {
			t.Errorf("%d: %d, %v", i, b, e)
		}
		if c.err != api.OK && Conforms(c.slope, 1<<64-1, c.l, 1) {
			t.Errorf("%d: conforms", i)
		}
	}
}

func TestBound(t *testing.T) {
	one := api.Curve{M1: 65536, M2: 65536}
	for i, c := range []struct {
		x     api.Config
		c     api.Curve
		burst uint64
		want  uint64
		err   api.Errno
	}{
		{wire, one, 0, 100, api.OK}, {wire, api.Curve{M1: 65535, M2: 65535}, 1, 102, api.OK}, {wire, api.Curve{D: 9, M2: 65536}, 5, 114, api.OK}, {wire, api.Curve{M1: 65537, D: 9, M2: 65536}, 5, 105, api.OK}, {api.Config{T: api.MaxT, Lmax: api.MaxLen}, api.Curve{M1: 1, M2: 1}, api.MaxBytes, 1<<56 + 1<<30, api.OK}, {api.Config{T: 1, Lmax: 1}, one, 7, 8, api.OK},
		{wire, one, api.MaxBytes + 1, 0, api.ErrArg}, {api.Config{}, api.Curve{}, 0, 0, api.ErrArg}, {api.Config{T: 1}, one, 0, 0, api.ErrArg}, {api.Config{T: api.MaxT + 1, Lmax: 1}, one, 0, 0, api.ErrArg}, {api.Config{T: 1, Lmax: api.MaxLen + 1}, one, 0, 0, api.ErrArg},
		{wire, api.Curve{}, 0, 0, api.ErrCurve}, {wire, api.Curve{M1: 5, D: 5}, 0, 0, api.ErrCurve}, {wire, api.Curve{M1: 1, D: 1, M2: 2}, 0, 0, api.ErrCurve},
	} {
		if b, e := Bound(c.x, c.c, c.burst); b != c.want || e != c.err {
			t.Errorf("%d: %d, %v", i, b, e)
		}
	}
}

// conforms is what the words say, of any two events.
func conforms(slope, burst uint64, l []api.Event) bool {
	for i := range l {
		bytes := uint64(0)
		for _, e := range l[i:] {
			bytes += uint64(max(e.Packet.Len, 0))
			if bytes*api.Unit > burst*api.Unit+slope*(e.At-l[i].At) {
				return false
			}
		}
	}
	return true
}

// TestAgainstTheWords: 48.1 and 48.3.
func TestAgainstTheWords(t *testing.T) {
	r := rand.New(rand.NewSource(48))
	for range 1000 {
		var l []api.Event
		now, greatest := uint64(0), 0
		for range r.Intn(12) {
			now += uint64(r.Intn(4) * r.Intn(20))
			l = append(l, in(now, r.Intn(30)-3))
			greatest = max(greatest, l[len(l)-1].Packet.Len)
		}
		slope := 1 + uint64(r.Intn(200000))
		b, e := Burst(slope, l, 1)
		if e != api.OK || !conforms(slope, b, l) || b > 0 && conforms(slope, b-1, l) || b < uint64(greatest) {
			t.Fatal(slope, l, b, e)
		}
		if more, _ := Burst(slope+uint64(r.Intn(90000)), l, 1); more > b {
			t.Fatal(slope, l, b, more)
		}
		for n := range b + 3 {
			if Conforms(slope, n, l, 1) != conforms(slope, n, l) {
				t.Fatal(slope, l, n)
			}
		}
	}
}
