package promises

import (
	"reflect"
	"slices"
	"testing"

	"floodgate/api"
	"floodgate/script"
	"floodgate/top"
	"floodgate/trace"
)

// TestScriptsAsBytes: P1: a plain script, and one that was bytes, comes to the same (29.3, 29.5).
func TestScriptsAsBytes(t *testing.T) {
	read := 0
	every(200, all, func(seed int64, x api.Script) {
		a, e := top.Run(x)
		b, f := top.Run(script.Plain(x))
		if e != f || !reflect.DeepEqual(a, b) {
			t.Fatal(seed)
		}
		s, err := script.Encode(x)
		if err != api.OK {
			return
		}
		y, err := script.Decode(s)
		if err != api.OK {
			t.Fatal(seed, err)
		}
		read++
		if c, e := top.Run(y); e != f || !reflect.DeepEqual(a, c) {
			t.Fatal(seed)
		}
	})
	every(100, wish{real: true, caps: true, ops: 60}, func(seed int64, x api.Script) {
		s, err := script.Encode(x)
		y, again := script.Decode(s)
		if err != api.OK || again != api.OK || !reflect.DeepEqual(script.Plain(x), y) {
			t.Fatal(seed, err, again)
		}
	})
	if read == 0 {
		t.Error("no wild script was bytes")
	}
}

// TestEventsAsText: all events of scripts may be told, and are read back.
func TestEventsAsText(t *testing.T) {
	every(50, all, func(seed int64, x api.Script) {
		out, _ := top.Run(x)
		back := slices.Clone(out.Events)
		for i, e := range out.Events {
			s, err := trace.Line(e)
			if err != api.OK {
				t.Fatal(seed, err)
			}
			back[i], _ = trace.Parse(s)
		}
		if !slices.Equal(back, out.Events) {
			t.Fatal(seed)
		}
	})
}
