package desk

import (
	"slices"
	"strings"
	"testing"
)

func hold(t *testing.T, d *Desk, line string, want ...string) {
	t.Helper()
	if got := d.Line(line); !slices.Equal(got, want) {
		t.Errorf("%q: %q instead of %q", line, got, want)
	}
}

func TestExample(t *testing.T) {
	got := Run([]string{"link 1 100", "add 1 0 leaf - 65536 - 9 900", "commit", "rule 0.0.0.0 0.0.0.0 1", "rules", "put 7 60 1.2.3.4"})
	want := []string{"ok", "ok", "ok", "ok", "ok", "ok 1", "2 in 0 1 7 60 1 2 3 4", "2 share 0 60 1 7 60 1 2 3 4"}
	if !slices.Equal(got, want) {
		t.Errorf("%q", got)
	}
}

func TestEachLine(t *testing.T) {
	d := New()
	hold(t, d, "add 5 0 inner - 65536 - 0 0", "ok")
	hold(t, d, "link 2 100", "ok")
	hold(t, d, "show")
	hold(t, d, "clock", "clock 0 until 0 next never backlog 0 0")
	hold(t, d, "add 1 5 leaf 100 65536 - 1 100", "ok")
	hold(t, d, "add 2 0 leaf - 65536 - 1 100", "ok")
	hold(t, d, "commit", "ok")
	hold(t, d, "rule 65535.0.0.0 1.0.0.0 1", "ok")
	hold(t, d, "rules", "ok")
	hold(t, d, "put 18446744073709551615 60 1.2.3.4", "ok 1", "2 in 0 1 18446744073709551615 60 1 2 3 4", "2 real 0 120 1 18446744073709551615 60 1 2 3 4")
	hold(t, d, "put 8 40 1.0.0.0", "ok 1", "3 in 0 1 8 40 1 0 0 0")
	hold(t, d, "put 9 40 1.0.0.0", "? 30")
	hold(t, d, "show", "2 0 leaf - 65536 - 1 100 passive total 0 queue 0 0 drops 0", "5 0 inner - 65536 - 0 0 active total 60", "  1 5 leaf 100 65536 - 1 100 active total 60 queue 1 40 drops 1")
	hold(t, d, "clock", "clock 0 until 120 next 120 backlog 1 40")
	hold(t, d, "go 120", "ok", "5 share 120 200 1 8 40 1 0 0 0")
	hold(t, d, "class 1", "sent 2 100 real 1 waited 320 longest 200")
	hold(t, d, "class 77", "sent 0 0 real 0 waited 0 longest 0")
	hold(t, d, "set 2 0 leaf - 70000 - 1 100", "ok")
	hold(t, d, "del 2", "ok")
	hold(t, d, "commit", "ok")
	hold(t, d, "commit", "ok")
	hold(t, d, "rules", "ok")
	hold(t, d, "put 1 1 1.0.0.0", "? 31")
	hold(t, d, "go 18446744073709551615", "? 27")
	hold(t, d, "show", "5 0 inner - 65536 - 0 0 passive total 100", "  1 5 leaf 100 65536 - 1 100 passive total 100 queue 0 0 drops 1")
	hold(t, d, "")
}

func TestKept(t *testing.T) {
	d := New()
	hold(t, d, "link 1 100", "ok")
	// an error leaves nothing kept
	hold(t, d, "add 1 0 leaf - 65536 - 1 100", "ok")
	hold(t, d, "add 1 0 leaf - 65536 - 1 100", "ok")
	hold(t, d, "commit", "? 8 1")
	hold(t, d, "show")
	hold(t, d, "commit", "ok")
	hold(t, d, "show")
	hold(t, d, "add 1 0 leaf 65537 - - 1 100", "ok")
	hold(t, d, "commit", "? 22 0")
	hold(t, d, "rule 0.0.0.0 0.0.0.0 1", "ok")
	hold(t, d, "rule 0.0.0.0 0.0.0.1 1", "ok")
	hold(t, d, "rules", "? 1")
	hold(t, d, "rules", "ok")
	// what is forgotten is not kept
	hold(t, d, "add 1 0 leaf - 65536 - 1 100", "ok")
	hold(t, d, "rule 0.0.0.0 0.0.0.0 1", "ok")
	hold(t, d, "forget", "ok")
	hold(t, d, "commit", "ok")
	hold(t, d, "show")
	hold(t, d, "rules", "ok")
	hold(t, d, "put 1 1 0.0.0.0", "? 31")
	for range 32 {
		hold(t, d, "del 9", "ok")
		hold(t, d, "rule 0.0.0.0 0.0.0.0 1", "ok")
	}
	hold(t, d, "del 9", "? 2")
	hold(t, d, "add 1 0 leaf - 65536 - 1 100", "? 2")
	hold(t, d, "rule 0.0.0.0 0.0.0.0 1", "? 2")
	hold(t, d, "commit", "? 6 0")
	hold(t, d, "rules", "ok")
	hold(t, d, "del 9", "ok")
	hold(t, d, "rule 0.0.0.0 0.0.0.0 1", "ok")
}

// TestWithoutASystem: what is kept stays kept, if there is no system yet.
func TestWithoutASystem(t *testing.T) {
	d := New()
	hold(t, d, "add 1 0 leaf - 65536 - 1 100", "ok")
	hold(t, d, "rule 0.0.0.0 0.0.0.0 1", "ok")
	hold(t, d, "commit", "? 7")
	hold(t, d, "rules", "? 7")
	hold(t, d, "link 1 100", "ok")
	hold(t, d, "link 1 100", "? 7")
	hold(t, d, "commit", "ok")
	hold(t, d, "rules", "ok")
	hold(t, d, "put 7 5 0.0.0.1", "ok 1", "2 in 0 1 7 5 0 0 0 1", "2 share 0 5 1 7 5 0 0 0 1")
}

func TestErrors(t *testing.T) {
	running := New()
	running.Line("link 1 100")
	for i, c := range []struct {
		line          string
		fresh, linked string
	}{
		{strings.Repeat("x", 501), "? 2", "? 2"}, {strings.Repeat("x", 500), "? 4", "? 4"}, {strings.Repeat(" ", 500), "? 4", "? 4"}, {" ", "? 4", "? 4"}, {" show", "? 4", "? 4"}, {"show ", "? 4", "? 4"}, {"link  1 100", "? 4", "? 4"},
		{"shows", "? 4", "? 4"}, {"Show", "? 4", "? 4"}, {"show 1", "? 4", "? 4"}, {"link 1", "? 4", "? 4"}, {"link 1 2 3", "? 4", "? 4"}, {"link x 0", "? 4", "? 4"}, {"link 2147483648 x", "? 20", "? 20"}, {"link 1 2147483648", "? 20", "? 20"}, {"link 0 100", "? 1", "? 7"}, {"link 1 2147483647", "? 1", "? 7"}, {"link 01 1", "? 4", "? 4"},
		{"commit", "? 7", "ok"}, {"rules", "? 7", "ok"}, {"show", "? 7", ""}, {"clock", "? 7", "clock 0 until 0 next never backlog 0 0"}, {"class 1", "? 7", "sent 0 0 real 0 waited 0 longest 0"}, {"class x", "? 4", "? 4"}, {"class 2147483648", "? 20", "? 20"}, {"go 1", "? 7", "ok"}, {"go 18446744073709551616", "? 20", "? 20"}, {"go -1", "? 4", "? 4"},
		{"put 1 1 1.2.3.4", "? 7", "? 31"}, {"put x 2147483648 1.2", "? 4", "? 4"}, {"put 1 2147483648 1.2", "? 20", "? 20"}, {"put 1 1 1.2.3", "? 4", "? 4"}, {"put 1 1 1.2.3.4.5", "? 4", "? 4"}, {"put 1 1 1.2.65536.x", "? 20", "? 20"}, {"put 1 1 1.2.x.65536", "? 4", "? 4"}, {"put 1 1 1.2..4", "? 4", "? 4"}, {"put 18446744073709551616 1 1.2.3.4", "? 20", "? 20"},
		{"add 1 0 leaf - 65536 - 9", "? 4", "? 4"}, {"add 1 0 leaf - 65536 - 9 900 1", "? 4", "? 4"}, {"add 1 0 leaf 0 65536 - 9 900", "? 4", "? 4"}, {"set 1 0 leaf - 18446744073709551616 - 9 900", "? 20", "? 20"}, {"add 1 0 leaf " + strings.Repeat("9", 81) + " - - 9 900", "? 2", "? 2"}, {"add 1 0 leaf " + strings.Repeat("9", 390) + " - - 9 900", "? 2", "? 2"},
		{"add 9223372036854775808 x leaf - - - 9 900", "? 20", "? 20"}, {"del -1", "? 4", "? 4"}, {"del 2147483648", "? 20", "? 20"}, {"rule 0.0.0.0 0.0.0 x", "? 4", "? 4"}, {"rule 0.0.0.65536 0.0.0 x", "? 20", "? 20"}, {"rule 0.0.0.0 0.0.0.0 2147483648", "? 20", "? 20"},
		{"forget", "ok", "ok"}, {"forget 1", "? 4", "? 4"}, {"add 9223372036854775807 0 leaf - - - 9 900", "ok", "ok"}, {"rule 0.0.0.0 0.0.0.1 0", "ok", "ok"},
	} {
		if got := strings.Join(New().Line(c.line), "|"); got != c.fresh {
			t.Errorf("%d: %q: %q", i, c.line, got)
		}
		if got := strings.Join(running.Line(c.line), "|"); got != c.linked {
			t.Errorf("%d: %q at a desk with a system: %q", i, c.line, got)
		}
	}
}

func TestNil(t *testing.T) {
	var d *Desk
	for _, s := range []string{"", "show", "link 1 100", strings.Repeat("x", 600)} {
		hold(t, d, s)
	}
	if len(Run(nil)) != 0 || len(Run([]string{"", ""})) != 0 {
		t.Error("answers to none")
	}
	hold(t, new(Desk), "link 1 100", "ok")
}
