// Package varint is layer 1: see shared/doc/01-varint.md.
package varint

import (
	"math/bits"

	"cromlech/api"
)

const (
	digit   = 7          // bits of a digit to the base 128
	more    = 1 << digit // what a byte has on top of its digit, if another one is behind it
	longest = 10         // bytes of the greatest number
	top     = 1          // the greatest tenth digit: nine have 63 of the 64 bits
)

// Put is a number's bytes, Len how many, Row those of some.
func Put(v uint64) string { return Row(v) }

func Len(v uint64) int {
	// 0 has no bits, but it has a digit.
	return max(1, (bits.Len64(v)+digit-1)/digit)
}

func Row(l ...uint64) string {
	n := 0
	for _, v := range l {
		n += Len(v)
	}
	b := make([]byte, 0, n)
	for _, v := range l {
		for v >= more {
			b = append(b, byte(v%more+more))
			v /= more
		}
		b = append(b, byte(v))
	}
	return string(b)
}

// Take is the number that stands somewhere, TakeRow some of these.
func Take(s string, at int) (v uint64, next int, e api.Errno) {
	if at < 0 {
		return 0, 0, api.ErrArg
	}
	// Cut off first, so that no place is reckoned that is too great for an int.
	rest := s[min(at, len(s)):]
	n := 0
digits:
	for {
		if n == len(rest) {
			return 0, 0, api.ErrShort
		}
		c := rest[n]
		v |= uint64(c%more) << (n * digit)
		n++
		switch {
		case n == longest && c > top:
			return 0, 0, api.ErrForm
		case n > 1 && c == 0:
			// A highest digit 0 would be a second spelling of a shorter number.
			return 0, 0, api.ErrForm
		case c < more:
			break digits
		}
	}
	return v, at + n, api.OK
}

func TakeRow(s string, at, n int) (l []uint64, next int, e api.Errno) {
	if at < 0 || n < 0 {
		return nil, 0, api.ErrArg
	}
	// The list grows as numbers are met: n alone may tell far more than s has.
	next = at
	for range n {
		v, behind, fault := Take(s, next)
		if fault != api.OK {
			return nil, 0, fault
		}
		l = append(l, v)
		next = behind
	}
	return l, next, api.OK
}
