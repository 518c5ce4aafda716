package busy

import (
	"math/rand"
	"slices"
	"testing"

	"floodgate/api"
)

func in(at uint64) api.Event        { return api.Event{In: true, At: at, Done: 5000} }
func out(at, done uint64) api.Event { return api.Event{At: at, Done: done} }

func TestExample(t *testing.T) {
	l := []api.Event{out(0, 100), in(90), out(100, 150), out(200, 250)}
	if s := Stretches(l); !slices.Equal(s, []Stretch{{0, 150}, {200, 250}}) || Sending(l) != 200 || Until(l) != 250 || Work(l) != 0 {
		t.Error(s, Sending(l))
	}
	if len(Stretches(nil)) != 0 || Sending(nil) != 0 || Until(nil) != 0 || Work(nil) != 0 || len(Stretches([]api.Event{in(5)})) != 0 || Until([]api.Event{in(5)}) != 0 {
		t.Error("no events")
	}
}

func TestStretches(t *testing.T) {
	for i, c := range []struct {
		l    []api.Event
		want []Stretch
		all  uint64
	}{
		{[]api.Event{out(5, 9), out(9, 12), out(13, 14)}, []Stretch{{5, 12}, {13, 14}}, 8},
		{[]api.Event{out(5, 90), out(9, 12), out(50, 60)}, []Stretch{{5, 90}}, 85},
		{[]api.Event{out(50, 9), out(10, 20), out(20, 30)}, []Stretch{{50, 9}, {10, 30}}, 20},
		{[]api.Event{out(5, 9), out(10, 3), out(9, 9)}, []Stretch{{5, 9}, {10, 9}}, 4},
		{[]api.Event{out(0, 0), out(1, 2)}, []Stretch{{0, 0}, {1, 2}}, 1},
	} {
		if s := Stretches(c.l); !slices.Equal(s, c.want) || Sending(c.l) != c.all {
			t.Errorf("%d: %v, %d", i, s, Sending(c.l))
		}
	}
}

func TestWork(t *testing.T) {
	for i, c := range []struct {
		l    []api.Event
		want int
	}{{[]api.Event{in(1), in(2), out(3, 4)}, 1}, {[]api.Event{out(3, 4), in(4)}, 1}, {[]api.Event{in(1), out(3, 4), out(4, 5), in(5), in(6)}, 2}} {
		if Work(c.l) != c.want {
			t.Error(i, Work(c.l))
		}
	}
}

func TestLate(t *testing.T) {
	for i, c := range []struct {
		l    []api.Event
		at   int
		late bool
	}{
		{[]api.Event{in(5), out(5, 9)}, 0, false}, {[]api.Event{in(5), out(6, 9)}, 1, true}, {[]api.Event{in(5), out(5, 9), in(6), out(9, 12)}, 0, false}, {[]api.Event{in(5), out(5, 9), in(6), out(10, 12)}, 3, true},
		{[]api.Event{in(5), in(6), out(5, 9), out(9, 12), in(20), out(20, 22)}, 0, false}, {[]api.Event{in(5), in(6), out(5, 9), out(9, 12), in(20), out(21, 22)}, 5, true},
		// the work waits from the first packet on, also if the one that is picked came later
		{[]api.Event{in(5), in(8), out(8, 9)}, 2, true},
		// without work a pick is not late; nor is it ahead of the greatest Done
		{[]api.Event{out(50, 60), out(90, 99)}, 0, false}, {[]api.Event{out(5, 60), out(5, 9), in(1), out(50, 51), in(51), out(60, 61), in(61), out(62, 63)}, 7, true},
		{nil, 0, false}, {[]api.Event{in(0), out(0, 1)}, 0, false}, {[]api.Event{in(0), out(1, 2)}, 1, true},
		// the work waits anew when it became one from none
		{[]api.Event{in(1), out(1, 2), in(7), out(7, 8)}, 0, false},
	} {
		if at, late := Late(c.l); at != c.at || late != c.late {
			t.Errorf("%d: %d, %v", i, at, late)
		}
	}
}

// TestAgainstTheWords: 35.1 and 35.2.
func TestAgainstTheWords(t *testing.T) {
	r := rand.New(rand.NewSource(37))
	for range 2000 {
		l := make([]api.Event, r.Intn(15))
		now := uint64(0)
		for i := range l {
			now += uint64(r.Intn(4))
			l[i] = api.Event{In: r.Intn(2) == 0, At: now, Done: now + uint64(r.Intn(8)) - 1}
			if l[i].At == 0 {
				l[i].Done = 3
			}
		}
		work, since, place, late := 0, uint64(0), 0, false
		for i, e := range l {
			until := Until(l[:i])
			if e.In {
				if work++; work == 1 {
					since = e.At
				}
			} else {
				if !late && work > 0 && e.At > since && e.At > until {
					place, late = i, true
				}
				work = max(work-1, 0)
			}
			if Work(l[:i+1]) != work {
				t.Fatal(l[:i+1])
			}
			more := len(Stretches(l[:i+1])) - len(Stretches(l[:i]))
			begins := !e.In && (len(Stretches(l[:i])) == 0 || e.At > until)
			if (more == 1) != begins || more > 1 || more < 0 {
				t.Fatal(l[:i+1])
			}
			if want := max(until, e.Done); !e.In && Until(l[:i+1]) != want || e.In && Until(l[:i+1]) != until {
				t.Fatal(l[:i+1])
			}
		}
		if at, ok := Late(l); at != place || ok != late {
			t.Fatal(l, at, ok)
		}
	}
}
