// Package wide is layer 1: see shared/doc/01-wide.md.
package wide

import "floodgate/api"

// Num is Hi times 2^64, and Lo.
type Num struct{ Hi, Lo uint64 }

const (
	halfBits = 32
	halfMask = 1<<halfBits - 1
	wordBits = 64
	// a number of 128 bits has at most so many digits
	mostDigits = 39
)

// Of is a number as a wide one.
func Of(v uint64) Num { return Num{Lo: v} }

// Add is the sum, and whether it is too great.
func Add(a, b Num) (Num, bool) {
	lo := a.Lo + b.Lo
	var carry uint64
	if lo < a.Lo {
		carry = 1
	}
	part := a.Hi + b.Hi
	hi := part + carry
	return Num{Hi: hi, Lo: lo}, part < a.Hi || hi < part
}

// Sub is the difference, and whether it is below 0.
func Sub(a, b Num) (Num, bool) {
	var borrow uint64
	if a.Lo < b.Lo {
		borrow = 1
	}
	return Num{Hi: a.Hi - b.Hi - borrow, Lo: a.Lo - b.Lo}, Compare(a, b) < 0
}

// Compare is -1, 0 or 1.
func Compare(a, b Num) int {
	switch {
	case a == b:
		return 0
	case a.Hi < b.Hi, a.Hi == b.Hi && a.Lo < b.Lo:
		return -1
	}
	return 1
}

// Mul is the product.
func Mul(a, b uint64) Num {
	var out Num
	for i := range 2 {
		for j := range 2 {
			out, _ = Add(out, moved(half(a, i)*half(b, j), i+j))
		}
	}
	return out
}

// half is the lower (0) or the higher (1) half of a number.
func half(v uint64, i int) uint64 { return v >> (halfBits * i) & halfMask }

// moved is a number moved up by so many halves, two at the most.
func moved(v uint64, halves int) Num {
	up := uint(halves * halfBits)
	// a shift by 64 leaves nothing of either half
	return Num{Hi: v >> (wordBits - up), Lo: v << up}
}

// Div is the quotient, rounded down, and the rest.
func Div(a Num, b uint64) (Num, uint64, api.Errno) {
	if b == 0 {
		return Num{}, 0, api.ErrArg
	}
	q, rest := Num{Hi: a.Hi / b}, a.Hi%b
	if rest == 0 {
		q.Lo = a.Lo / b
		return q, a.Lo % b, api.OK
	}
	for i := range wordBits {
		// the bit that falls out on the left makes the rest greater than b
		out := rest >> (wordBits - 1)
		rest = rest<<1 | a.Lo>>(wordBits-1-i)&1
		q.Lo <<= 1
		if out == 1 || rest >= b {
			rest -= b
			q.Lo |= 1
		}
	}
	return q, rest, api.OK
}

// Text is the number in tens.
func Text(a Num) string {
	var digits [mostDigits]byte
	at := mostDigits
	for range mostDigits {
		q, rest, _ := Div(a, 10)
		at--
		digits[at] = byte('0' + rest)
		a = q
		if a == (Num{}) {
			break
		}
	}
	return string(digits[at:])
}
