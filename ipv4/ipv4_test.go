package ipv4

import (
	"math/rand"
	"strings"
	"testing"

	"floodgate/api"
)

const example = "\x45\x00\x00\x18\x00\x01\x00\x00\x40\x11\x66\xd2\x0a\x00\x00\x01\x0a\x00\x00\x02body"

func TestExample(t *testing.T) {
	h := Header{TTL: 64, Proto: 17, Src: 0x0a000001, Dst: 0x0a000002, ID: 1}
	if s, e := Encode(h, "body"); s != example || e != api.OK {
		t.Errorf("%x, %v", s, e)
	}
	if x, b, e := Decode(example); x != h || b != "body" || e != api.OK {
		t.Error(x, b, e)
	}
}

func TestAllFields(t *testing.T) {
	h := Header{TOS: 0xb8, ID: 0x0102, Flags: 5, Offset: 0x1234, TTL: 3, Proto: 6, Src: 0x04050607, Dst: 0x08090a0b, Options: "abcde"}
	s, e := Encode(h, "")
	want := "\x47\xb8\x00\x1c\x01\x02\xb2\x34\x03\x06\x00\x00\x04\x05\x06\x07\x08\x09\x0a\x0babcde\x00\x00\x00"
	sum := 65535 - Sum(want)
	want = want[:10] + string([]byte{byte(sum >> 8), byte(sum)}) + want[12:]
	if s != want || e != api.OK {
		t.Errorf("%x, %v", s, e)
	}
	h.Options += "\x00\x00\x00"
	if x, b, e := Decode(s); x != h || b != "" || e != api.OK {
		t.Error(x, b, e)
	}
	if Sum(s) != 65535 {
		t.Error("the sum of a header with its sum:", Sum(s))
	}
}

func TestSum(t *testing.T) {
	for s, want := range map[string]uint16{"": 0, "\x01": 0x100, "\x01\x02": 0x102, "\x01\x02\x03": 0x402, "\xff\xff": 0xffff, "\xff\xff\x00\x01": 1, "\xff\xff\xff\xff": 0xffff, "\xff\xff\xff\xff\x00\x01": 1, "\x00\x00": 0} {
		if Sum(s) != want {
			t.Errorf("%x: %x", s, Sum(s))
		}
	}
	if s := Sum(strings.Repeat("\xff\xfe", 1<<17)); s != 0xfffd {
		t.Error(s)
	}
	r := rand.New(rand.NewSource(42))
	for range 300 {
		b := make([]byte, r.Intn(5000))
		r.Read(b)
		// the sum, step by step
		sum := 0
		for i := range b {
			if i%2 == 0 {
				sum += int(b[i]) << 8
			} else {
				sum += int(b[i])
			}
			if sum > 65535 {
				sum -= 65535
			}
		}
		if int(Sum(string(b))) != sum {
			t.Fatalf("%x: %d instead of %d", b, Sum(string(b)), sum)
		}
	}
}

func TestWhatMayNotBe(t *testing.T) {
	for i, c := range []struct {
		h    Header
		n    int
		want api.Errno
	}{
		{Header{Flags: 8}, 0, api.ErrArg}, {Header{Offset: 8192}, 0, api.ErrArg}, {Header{Flags: 255, Options: strings.Repeat("x", 41)}, 70000, api.ErrArg}, {Header{Flags: 7, Offset: 8191}, 0, api.OK},
		{Header{Options: strings.Repeat("x", 41)}, 0, api.ErrLong}, {Header{Options: strings.Repeat("x", 40)}, 0, api.OK}, {Header{}, 65535 - 20, api.OK}, {Header{}, 65536 - 20, api.ErrLong}, {Header{Options: "x"}, 65536 - 24, api.ErrLong}, {Header{Options: "x"}, 65535 - 24, api.OK},
	} {
		s, e := Encode(c.h, strings.Repeat("b", c.n))
		if e != c.want || e != api.OK && s != "" {
			t.Error(i, e)
		}
		if e == api.OK {
			if _, b, e := Decode(s); len(b) != c.n || e != api.OK {
				t.Error(i, e)
			}
		}
	}
	with := func(at int, b byte) string { return example[:at] + string([]byte{b}) + example[at+1:] }
	for s, want := range map[string]api.Errno{
		"": api.ErrShort, example[:19]: api.ErrShort, strings.Repeat("\xff", 19): api.ErrShort, with(0, 68): api.ErrForm, with(0, 80): api.ErrForm, with(0, 0): api.ErrForm, with(0, 255): api.ErrForm, with(0, 0x55): api.ErrForm, with(3, 19): api.ErrForm, with(0, 71): api.ErrForm,
		with(3, 20): api.ErrLong, with(3, 23): api.ErrLong, with(3, 25): api.ErrShort, with(2, 1): api.ErrShort, example[:23]: api.ErrShort, example + "x": api.ErrLong, with(0, 70): api.ErrState, with(10, 0x67): api.ErrState, with(8, 63): api.ErrState,
	} {
		if h, b, e := Decode(s); h != (Header{}) || b != "" || e != want {
			t.Errorf("%x: %v instead of %v", s, e, want)
		}
	}
	long, _ := Encode(Header{}, strings.Repeat("b", 60))
	for b, want := range map[byte]api.Errno{80: api.ErrForm, 79: api.ErrState, 68: api.ErrForm} {
		if _, _, e := Decode(string([]byte{b}) + long[1:]); e != want {
			t.Error(b, e)
		}
	}
	// the body is not in the header's sum
	if _, b, e := Decode(with(20, 'B')); b != "Body" || e != api.OK {
		t.Error(b, e)
	}
}

func some(r *rand.Rand) (Header, string) {
	bytes := make([]byte, r.Intn(60))
	r.Read(bytes)
	options := make([]byte, r.Intn(41))
	r.Read(options)
	return Header{TOS: uint8(r.Uint32()), ID: uint16(r.Uint32()), Flags: uint8(r.Intn(8)), Offset: uint16(r.Intn(8192)), TTL: uint8(r.Uint32()), Proto: uint8(r.Uint32()), Src: r.Uint32(), Dst: r.Uint32(), Options: string(options)}, string(bytes)
}

// TestRoundTrips: 44.3 and 44.4.
func TestRoundTrips(t *testing.T) {
	r := rand.New(rand.NewSource(43))
	for range 500 {
		h, body := some(r)
		s, e := Encode(h, body)
		x, b, f := Decode(s)
		h.Options += strings.Repeat("\x00", (4-len(h.Options)%4)%4)
		if e != api.OK || f != api.OK || x != h || b != body {
			t.Fatal(h, x, e, f)
		}
		if again, _ := Encode(x, b); again != s {
			t.Fatalf("%x: %x", s, again)
		}
		for at := 1; at < len(s)-len(body); at++ {
			c := []byte(s)
			c[at] += byte(1 + r.Intn(255))
			if _, _, e := Decode(string(c)); e == api.OK {
				t.Fatalf("%x: byte %d is changed, and it is read", s, at)
			}
		}
	}
}
