// Package wide is layer 1: whole numbers of 256 bits, checked.
package wide

import (
	"math/bits"

	"bascule/api"
)

const (
	size      = 32 // bytes of a wide number
	mostText  = 80 // digits that Parse looks at
	groupBase = 10000000000000000000
	groupLen  = 19 // digits below groupBase
)

// Of answers n as a wide number.
func Of(n uint64) api.Wide { return api.Wide{n} }

// Low answers a as 64 bits, where it fits.
func Low(a api.Wide) (uint64, bool) {
	if a != (api.Wide{a[0]}) {
		return 0, false
	}
	return a[0], true
}

// Add answers a + b.
func Add(a, b api.Wide) (api.Wide, api.Errno) {
	sum, carry := add(a, b)
	if carry != 0 {
		return api.Wide{}, api.ErrOver
	}
	return sum, api.OK
}

// Sub answers a - b.
func Sub(a, b api.Wide) (api.Wide, api.Errno) {
	rest, borrow := sub(a, b)
	if borrow != 0 {
		return api.Wide{}, api.ErrUnder
	}
	return rest, api.OK
}

func add(a, b api.Wide) (sum api.Wide, carry uint64) {
	for i := range a {
		sum[i], carry = bits.Add64(a[i], b[i], carry)
	}
	return sum, carry
}

func sub(a, b api.Wide) (rest api.Wide, borrow uint64) {
	for i := range a {
		rest[i], borrow = bits.Sub64(a[i], b[i], borrow)
	}
	return rest, borrow
}

// Mul answers a times b.
func Mul(a, b api.Wide) (api.Wide, api.Errno) {
	var out [8]uint64
	for i, x := range a {
		carry := uint64(0)
		for j, y := range b {
			hi, lo := bits.Mul64(x, y)
			var c uint64
			lo, c = bits.Add64(lo, carry, 0)
			hi += c
			out[i+j], c = bits.Add64(out[i+j], lo, 0)
			carry = hi + c
		}
		out[i+4] = carry
	}
	if [4]uint64(out[4:]) != [4]uint64{} {
		return api.Wide{}, api.ErrOver
	}
	return api.Wide(out[:4]), api.OK
}

// Div answers how often b is in a, and what is left.
func Div(a, b api.Wide) (quo, rest api.Wide, e api.Errno) {
	if b == (api.Wide{}) {
		return api.Wide{}, api.Wide{}, api.ErrZero
	}
	for i := 255; i >= 0; i-- {
		over := rest[3] >> 63
		rest, _ = add(rest, rest)
		rest[0] |= a[i/64] >> (i % 64) & 1
		// With a bit over the rest is above every b, and the difference fits again.
		if less, borrow := sub(rest, b); over == 1 || borrow == 0 {
			rest = less
			quo[i/64] |= 1 << (i % 64)
		}
	}
	return quo, rest, api.OK
}

// Compare answers -1, 0 or 1.
func Compare(a, b api.Wide) int {
	if a == b {
		return 0
	}
	if _, borrow := sub(a, b); borrow != 0 {
		return -1
	}
	return 1
}

// Bytes answers 32 bytes, the highest first.
func Bytes(a api.Wide) []byte {
	b := make([]byte, size)
	for i := range b {
		b[size-1-i] = byte(a[i/8] >> (i % 8 * 8))
	}
	return b
}

// From answers the number of 32 bytes.
func From(b []byte) (api.Wide, api.Errno) {
	if len(b) != size {
		return api.Wide{}, api.ErrForm
	}
	var a api.Wide
	for i := range size {
		a[i/8] |= uint64(b[size-1-i]) << (i % 8 * 8)
	}
	return a, api.OK
}

// Print answers decimal digits.
func Print(a api.Wide) string {
	var text [mostText]byte
	at := len(text)
groups:
	for {
		var low uint64
		a, low = group(a)
		for n := 0; n < groupLen; n++ {
			if a == (api.Wide{}) && low == 0 && at < len(text) {
				break groups
			}
			at--
			text[at] = byte('0' + low%10)
			low /= 10
		}
	}
	return string(text[at:])
}

// group parts a from its lowest digits, as many as a machine word holds.
func group(a api.Wide) (api.Wide, uint64) {
	rest := uint64(0)
	for i := 3; i >= 0; i-- {
		a[i], rest = bits.Div64(rest, a[i], groupBase)
	}
	return a, rest
}

// Parse answers the number that decimal digits tell.
func Parse(s string) (api.Wide, api.Errno) {
	if !decimal(s) {
		return api.Wide{}, api.ErrForm
	}
	var a api.Wide
	for i := range len(s) {
		more, e := Mul(a, Of(10))
		if e != api.OK {
			return api.Wide{}, e
		}
		if a, e = Add(more, Of(uint64(s[i]-'0'))); e != api.OK {
			return api.Wide{}, e
		}
	}
	return a, api.OK
}

// decimal tells whether s is a number's digits, without a needless 0.
func decimal(s string) bool {
	if len(s) == 0 || len(s) > mostText || len(s) > 1 && s[0] == '0' {
		return false
	}
digits:
	for i := range len(s) {
		if s[i] >= '0' && s[i] <= '9' {
			continue digits
		}
		return false
	}
	return true
}
