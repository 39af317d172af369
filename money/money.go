// Package money has amounts, whose sums are exact, or refused. See shared/doc/01-money.md.
package money

import (
	"math/bits"

	"octroi/api"
)

// cent is the number of minor units in a whole one.
const cent = 100

// halves is a whole number of 128 bits, in two's complement, its upper half first: so wide that no list of numbers brings a sum out of it.
type halves [2]uint64

// May tells whether a number is an amount.
func May(a int) bool { return -api.MaxMoney <= a && a <= api.MaxMoney }

// Add tells a sum.
func Add(a, b int) (int, api.Errno) { return Total(a, b) }

// Sub tells a difference.
//
// The least int, turned about 0, is itself, and so is as little an amount as it was: b's own error is not lost.
func Sub(a, b int) (int, api.Errno) { return Total(a, -b) }

// Neg tells an amount turned about 0.
func Neg(a int) (int, api.Errno) { return Total(-a) }

// Sum tells the sum of all.
func Sum(l []int) (int, api.Errno) { return Total(l...) }

// Total tells the sum of all.
func Total(l ...int) (int, api.Errno) {
	var sum halves
	proper := true
	for _, a := range l {
		proper = proper && May(a)
		sum = sum.plus(a)
	}
	return tell(sum, proper)
}

// Part tells whole units, and what is left.
func Part(a int) (whole, cents int, e api.Errno) {
	if !May(a) {
		return 0, 0, api.ErrArg
	}
	return a / cent, a % cent, api.OK
}

// spread tells a number as halves: the upper one repeats the sign.
func spread(a int) halves { return halves{uint64(a >> 63), uint64(a)} }

// plus tells the sum of h and a number.
func (h halves) plus(a int) halves {
	b := spread(a)
	low, carry := bits.Add64(h[1], b[1], 0)
	high, _ := bits.Add64(h[0], b[0], carry)
	return halves{high, low}
}

// tell hands out a sum, if it is an amount, and proper says that it is one of amounts alone.
func tell(sum halves, proper bool) (int, api.Errno) {
	n, e := int(sum[1]), api.ErrOver
	switch {
	case !proper:
		e = api.ErrArg
		fallthrough
	case sum != spread(n), !May(n):
		return 0, e
	default:
		return n, api.OK
	}
}
