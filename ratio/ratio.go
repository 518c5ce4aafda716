// Package ratio is layer 2: see shared/doc/02-ratio.md.
package ratio

import (
	"floodgate/api"
	"floodgate/wide"
)

// Compare holds a times b against c times d.
func Compare(a, b, c, d uint64) int { return wide.Compare(wide.Mul(a, b), wide.Mul(c, d)) }

// Down is a times b over c, rounded down.
func Down(a, b, c uint64) (uint64, api.Errno) { return Floor(wide.Mul(a, b), c) }

// Up is a times b over c, rounded up.
func Up(a, b, c uint64) (uint64, api.Errno) { return Ceil(wide.Mul(a, b), c) }

// Ceil is n over d, rounded up.
func Ceil(n wide.Num, d uint64) (uint64, api.Errno) {
	q, rest, err := wide.Div(n, d)
	if err != api.OK {
		return 0, err
	}
	if rest > 0 {
		// n is no more than 2^128 - 1, so one more never wraps round, unless d is 1, which leaves no rest
		q, _ = wide.Add(q, wide.Of(1))
	}
	return narrow(q)
}

// Floor is n over d, rounded down.
func Floor(n wide.Num, d uint64) (uint64, api.Errno) {
	q, _, err := wide.Div(n, d)
	if err != api.OK {
		return 0, err
	}
	return narrow(q)
}

// narrow is a wide number as one of 64 bits.
func narrow(a wide.Num) (uint64, api.Errno) {
	if a.Hi != 0 {
		return 0, api.ErrOver
	}
	return a.Lo, api.OK
}
