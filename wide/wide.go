// Package wide has products by a fraction, rounded. See shared/doc/02-wide.md.
package wide

import (
	"math/bits"

	"octroi/api"
	"octroi/money"
)

// whole is the rate that is all of an amount, and percents the percentage that is.
const (
	whole    = 10000
	percents = 100
)

// halves is a whole number of 128 bits that is not below 0, its upper half first.
type halves [2]uint64

// MulDiv tells a product by a number, rounded half away from 0.
func MulDiv(a, b, c int) (int, api.Errno) {
	if !amounts(a, b, c) || c < 1 {
		return 0, api.ErrArg
	}
	p, sign := product(a, b)
	// Without the sign, away from 0 is up; c - rest, since twice the rest might not go into 64 bits.
	q, e := quotient(p, uint64(c), func(rest uint64) bool { return rest >= uint64(c)-rest })
	return sign(q), e
}

// Ceil tells it, rounded up.
func Ceil(a, b, c int) (int, api.Errno) {
	if !amounts(a, b, c) || a < 0 || b < 0 || c < 1 {
		return 0, api.ErrArg
	}
	p, _ := product(a, b) // no sign: nothing is below 0
	return quotient(p, uint64(c), func(rest uint64) bool { return rest > 0 })
}

// Tax tells the tax on a net amount.
func Tax(net, bp int) (int, api.Errno) {
	if !rate(bp) {
		return 0, api.ErrArg
	}
	return MulDiv(net, bp, whole)
}

// Inside tells the tax inside a gross amount.
func Inside(gross, bp int) (int, api.Errno) {
	if !rate(bp) {
		return 0, api.ErrArg
	}
	return MulDiv(gross, bp, whole+bp)
}

// Percent tells a share of an amount.
func Percent(a, n int) (int, api.Errno) {
	if n < 0 || n > percents {
		return 0, api.ErrArg
	}
	return MulDiv(a, n, percents)
}

// Less tells whether a product is below another one.
func Less(a, b, c, d int) (bool, api.Errno) {
	if !amounts(a, b, c, d) {
		return false, api.ErrArg
	}
	left, leftSign := product(a, b)
	right, rightSign := product(c, d)
	if s, t := side(left, leftSign), side(right, rightSign); s != t {
		return s < t, api.OK
	}
	return leftSign(order(left, right)) < 0, api.OK
}

// amounts tells whether all numbers are amounts.
func amounts(l ...int) bool {
	for _, a := range l {
		if !money.May(a) {
			return false
		}
	}
	return true
}

// rate tells whether a number is a rate.
func rate(bp int) bool { return 0 <= bp && bp <= api.MaxBp }

// product tells the product of two amounts without its sign, and what puts that sign on a number.
func product(a, b int) (p halves, sign func(n int) int) {
	below := (a < 0) != (b < 0)
	p[0], p[1] = bits.Mul64(size(a), size(b))
	return p, func(n int) int {
		if below {
			return -n
		}
		return n
	}
}

// size tells an amount without its sign.
func size(a int) uint64 {
	if a < 0 {
		return uint64(-a)
	}
	return uint64(a)
}

// quotient divides p by c, and adds 1 where up says so of what is left over.
func quotient(p halves, c uint64, up func(rest uint64) bool) (int, api.Errno) {
	if p[0] >= c { // the quotient has more than 64 bits, and Div64 would panic
		return 0, api.ErrOver
	}
	q, rest := bits.Div64(p[0], p[1], c)
	switch {
	case q > api.MaxMoney:
		return 0, api.ErrOver
	case up(rest):
		return money.Add(int(q), 1)
	}
	return int(q), api.OK
}

// side tells on which side of 0 a product stands. Nought stands on none, whatever signs it was made of.
func side(p halves, sign func(n int) int) int {
	if p == (halves{}) {
		return 0
	}
	return sign(1)
}

// order tells -1, 0 or 1: how p stands to q.
func order(p, q halves) int {
	switch {
	case p == q:
		return 0
	case p[0] < q[0], p[0] == q[0] && p[1] < q[1]:
		return -1
	}
	return 1
}
