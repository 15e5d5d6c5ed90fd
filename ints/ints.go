// Package ints is layer 1: see shared/doc/01-ints.md.
package ints

import (
	"math"
	"strconv"

	"tailwater/api"
)

// Do returns what an operator gives for two numbers.
func Do(kind uint8, a, b int64) (int64, api.Errno) {
	switch kind {
	case api.NoNeg:
		return -a, api.OK
	case api.NoNot:
		return truth(a == 0), api.OK
	case api.NoMul:
		return a * b, api.OK
	case api.NoAdd:
		return a + b, api.OK
	case api.NoSub:
		return a - b, api.OK
	case api.NoShl:
		return a << places(b), api.OK
	case api.NoShr:
		return a >> places(b), api.OK
	case api.NoLess:
		return truth(a < b), api.OK
	case api.NoAtMost:
		return truth(a <= b), api.OK
	case api.NoMore:
		return truth(a > b), api.OK
	case api.NoLeast:
		return truth(a >= b), api.OK
	case api.NoEqual:
		return truth(a == b), api.OK
	case api.NoOther:
		return truth(a != b), api.OK
	case api.NoAnd:
		return truth(a != 0 && b != 0), api.OK
	case api.NoOr:
		return truth(a != 0 || b != 0), api.OK
	}
	return 0, api.ErrArg
}

// truth returns the number that stands for a truth value.
func truth(holds bool) int64 {
	if holds {
		return 1
	}
	return 0
}

// places returns b modulo 64. A negative b becomes b plus 2^64 as a uint64,
// which is the same modulo 64, so that the result is never negative.
func places(b int64) uint64 { return uint64(b) % 64 }

// Text returns a number to the base 10.
func Text(n int64) string { return strconv.FormatInt(n, 10) }

// Read returns the number that digits are.
func Read(s string) (int64, api.Errno) {
	// The form of the whole text comes ahead of its range, however long it is.
	if !digits(s) {
		return 0, api.ErrForm
	}
	n := int64(0)
	for i := range len(s) {
		d := int64(s[i] - '0')
		if n > (math.MaxInt64-d)/10 {
			return 0, api.ErrRange
		}
		n = 10*n + d
	}
	return n, api.OK
}

// digits reports whether a text is digits.
func digits(s string) bool {
	for i := range len(s) {
		if s[i] < '0' || s[i] > '9' {
			return false
		}
	}
	return s != ""
}
