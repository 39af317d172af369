package margin_test

import (
	"math"
	"math/big"
	"math/rand"
	"slices"
	"testing"

	"octroi/api"
	"octroi/margin"
)

const most = api.MaxMoney

type deal = margin.Deal

var (
	noAmounts = []int{-1, -most, most + 1, -most - 1, math.MinInt, math.MinInt + 1, math.MaxInt, math.MaxInt - 1}
	noRates   = []int{-1, 10001, -10000, math.MinInt, math.MaxInt, 1 << 32, 1<<32 + 1900, -1<<32 + 1900, most, -most}
	someRates = []int{0, 1, 700, 1900, 2500, 4999, 5000, 9999, 10000}
	sides     = []int{0, 1, 2, 3, 5, 99, 100, 405, 1000, 1190, 1 << 31, 1<<32 + 1, most/2 - 1, most / 2, most/2 + 1, most - 1, most}
)

// answer is what Of and Pool tell; of Of nothing is left.
type answer struct {
	base, tax, left int
	e               api.Errno
}

func ofOne(base, tax int, e api.Errno) answer { return answer{base, tax, 0, e} }

func ofPool(base, tax, left int, e api.Errno) answer { return answer{base, tax, left, e} }

func check(t *testing.T, got, want answer, what ...any) {
	t.Helper()
	if got != want {
		t.Fatalf("%v: %v, not %v", what, got, want)
	}
}

func number(n int) *big.Int { return big.NewInt(int64(n)) }

// isFrom0 tells whether a number is an amount that is not below 0.
func isFrom0(n int) bool { return n >= 0 && number(n).Cmp(number(1<<62)) <= 0 }

// modelParts tells a gross amount's net part and tax in whole numbers without a bound; it is not below 0.
func modelParts(gross *big.Int, bp int) answer {
	inside := new(big.Int).Mul(gross, number(2*bp))
	inside.Add(inside, number(10000+bp)).Div(inside, number(2*(10000+bp)))
	return answer{int(gross.Int64() - inside.Int64()), int(inside.Int64()), 0, api.OK}
}

// modelOf is Of, word for word as the document says it.
func modelOf(price, cost, bp int) answer {
	if !isFrom0(price) || !isFrom0(cost) || bp < 0 || bp > 10000 {
		return answer{e: api.ErrArg}
	}
	earned := new(big.Int).Sub(number(price), number(cost))
	if earned.Sign() < 0 {
		earned.SetInt64(0)
	}
	return modelParts(earned, bp)
}

// modelPool is Pool, word for word as the document says it.
func modelPool(l []deal, bp, carry int) answer {
	if len(l) > 1<<20 || !isFrom0(carry) || bp < 0 || bp > 10000 {
		return answer{e: api.ErrArg}
	}
	sum := new(big.Int).Neg(number(carry))
	for _, d := range l {
		if !isFrom0(d.Price) || !isFrom0(d.Cost) {
			return answer{e: api.ErrArg}
		}
		sum.Add(sum, number(d.Price)).Sub(sum, number(d.Cost))
	}
	switch {
	case sum.CmpAbs(number(1<<62)) > 0:
		return answer{e: api.ErrOver}
	case sum.Sign() < 0:
		return answer{left: int(-sum.Int64())}
	}
	return modelParts(sum, bp)
}

// P23.1
func TestOfTold(t *testing.T) {
	for _, x := range []struct{ price, cost, bp, base, tax int }{
		{1000, 405, 1900, 500, 95},
		{5, 9, 1900, 0, 0},
		{0, 0, 1900, 0, 0},
		{9, 9, 1900, 0, 0},
		{1190, 0, 1900, 1000, 190},
		{0, 1190, 1900, 0, 0},
		{10, 9, 10000, 0, 1}, // a half, away from 0
		{11, 9, 10000, 1, 1},
		{9, 10, 10000, 0, 0},
		{10, 8, 5000, 1, 1}, // two thirds
		{10, 9, 5000, 1, 0}, // a third
		{595, 0, 0, 595, 0},
		{most, 0, 0, most, 0},
		{most, 0, 10000, most / 2, most / 2},
		{most, 1, 10000, most/2 - 1, most / 2},
		{most, most, 10000, 0, 0},
		{most, most - 3, 10000, 1, 2},
		{0, most, 10000, 0, 0},
		{most - 1, most, 10000, 0, 0},
	} {
		check(t, ofOne(margin.Of(x.price, x.cost, x.bp)), answer{x.base, x.tax, 0, api.OK}, "Of", x)
	}
}

// P23.1
func TestOfRefused(t *testing.T) {
	refused := answer{e: api.ErrArg}
	for _, wrong := range noAmounts {
		for _, side := range slices.Concat(sides, noAmounts) {
			for _, bp := range slices.Concat(someRates, noRates) {
				check(t, ofOne(margin.Of(wrong, side, bp)), refused, "price", wrong, side, bp)
				check(t, ofOne(margin.Of(side, wrong, bp)), refused, "cost", side, wrong, bp)
			}
		}
	}
	for _, bp := range noRates {
		for _, price := range sides {
			for _, cost := range sides {
				check(t, ofOne(margin.Of(price, cost, bp)), refused, "rate", price, cost, bp)
			}
		}
	}
}

// P23.1
func TestOfSmall(t *testing.T) {
	for price := range 60 {
		for cost := range 60 {
			for bp := 0; bp <= 10000; bp += 100 {
				check(t, ofOne(margin.Of(price, cost, bp)), modelOf(price, cost, bp), "Of", price, cost, bp)
			}
		}
	}
}

// P23.1
func TestOfEachRate(t *testing.T) {
	for bp := -2; bp <= 10002; bp++ {
		for _, price := range sides {
			for _, cost := range []int{0, 1, 405, most / 2, most} {
				check(t, ofOne(margin.Of(price, cost, bp)), modelOf(price, cost, bp), "Of", price, cost, bp)
			}
		}
	}
}

// sideOf tells an amount from 0 on, of any size by chance.
func sideOf(c *rand.Rand) int {
	if c.Intn(20) == 0 {
		return most - c.Intn(2)
	}
	return int(c.Int63()>>1) >> c.Intn(62)
}

// P23.1
func TestOfIsTheModels(t *testing.T) {
	c := rand.New(rand.NewSource(231))
	for range 60000 {
		price, cost, bp := sideOf(c), sideOf(c), c.Intn(10001)
		check(t, ofOne(margin.Of(price, cost, bp)), modelOf(price, cost, bp), "Of", price, cost, bp)
	}
}

// P23.2
func TestPoolTold(t *testing.T) {
	for _, x := range []struct {
		l                          []deal
		bp, carry, base, tax, left int
	}{
		{nil, 1900, 0, 0, 0, 0},
		{[]deal{}, 1900, 7, 0, 0, 7},
		{nil, 0, most, 0, 0, most},
		{[]deal{{1000, 405}}, 1900, 0, 500, 95, 0},
		{[]deal{{5, 9}}, 1900, 0, 0, 0, 4},
		{[]deal{{5, 9}}, 1900, 6, 0, 0, 10},
		{[]deal{{9, 9}}, 1900, 0, 0, 0, 0},
		{[]deal{{1000, 405}, {5, 9}}, 1900, 0, 497, 94, 0},      // 591
		{[]deal{{1000, 405}, {5, 600}}, 1900, 0, 0, 0, 0},       // just 0
		{[]deal{{1000, 405}, {5, 601}}, 1900, 0, 0, 0, 1},       // 1 below it
		{[]deal{{1000, 405}, {605, 10}}, 1900, 0, 1000, 190, 0}, // 1190
		{[]deal{{1000, 0}, {600, 10}}, 1900, 400, 1000, 190, 0},
		{[]deal{{1000, 405}}, 1900, 595, 0, 0, 0},
		{[]deal{{1000, 405}}, 1900, 594, 1, 0, 0},
		{[]deal{{1000, 405}}, 1900, 596, 0, 0, 1},
		{[]deal{{1, 0}, {1, 0}}, 10000, 0, 1, 1, 0}, // one by one each would have a tax of 1
		{[]deal{{2, 0}, {1, 0}}, 10000, 0, 1, 2, 0},
		{[]deal{{2, 0}, {1, 0}}, 0, 0, 3, 0, 0},
		{[]deal{{most, 0}}, 10000, 0, most / 2, most / 2, 0},
		{[]deal{{0, most}}, 10000, 0, 0, 0, most},
		{[]deal{{most, most}}, 10000, most, 0, 0, most},
	} {
		check(t, ofPool(margin.Pool(x.l, x.bp, x.carry)), answer{x.base, x.tax, x.left, api.OK}, "Pool", x)
	}
}

// P23.2: what may not be, in each place, ahead of what is over
func TestPoolRefused(t *testing.T) {
	refused := answer{e: api.ErrArg}
	lists := [][]deal{nil, {{1000, 405}}, {{5, 9}}, {{most, 0}, {most, 0}}, {{0, most}, {0, most}}, {{most, 0}, {0, most}, {3, 1}, {most, most}}}
	for _, l := range lists {
		for _, bp := range noRates {
			for _, carry := range slices.Concat(sides, noAmounts) {
				check(t, ofPool(margin.Pool(l, bp, carry)), refused, "rate", l, bp, carry)
			}
		}
		for _, carry := range noAmounts {
			for _, bp := range someRates {
				check(t, ofPool(margin.Pool(l, bp, carry)), refused, "carry", l, bp, carry)
			}
		}
		for at := range l {
			for _, wrong := range noAmounts {
				one, other := slices.Clone(l), slices.Clone(l)
				one[at].Price, other[at].Cost = wrong, wrong
				for _, carry := range []int{0, 1, most, -1} {
					check(t, ofPool(margin.Pool(one, 1900, carry)), refused, "price", one, carry)
					check(t, ofPool(margin.Pool(other, 1900, carry)), refused, "cost", other, carry)
					check(t, ofPool(margin.Pool(one, -1, carry)), refused, "price and rate", one, carry)
				}
			}
		}
	}
}

// P23.2: the sum alone may be over, whatever the sums on the way are
func TestPoolOver(t *testing.T) {
	over := answer{e: api.ErrOver}
	up, down, even := deal{most, 0}, deal{0, most}, deal{most, most}
	for _, x := range []struct {
		l     []deal
		carry int
		want  answer
	}{
		{[]deal{up, up}, 0, over},
		{[]deal{up, {1, 0}}, 0, over},
		{[]deal{{1, 0}, up}, 0, over},
		{[]deal{up, {1, 0}}, 1, answer{base: most / 2, tax: most / 2}},
		{[]deal{up, {2, 0}}, 1, over},
		{[]deal{up, {2, 1}}, 1, answer{base: most / 2, tax: most / 2}},
		{[]deal{up, up}, most - 1, over},
		{[]deal{up, up}, most, answer{base: most / 2, tax: most / 2}},
		{[]deal{up, up, up}, most, over},
		{[]deal{up, up, down}, most, answer{}},
		{[]deal{up, up, up, up}, 0, over}, // 2^64 is 0, as an int
		{[]deal{up, up, up, up}, most, over},
		{[]deal{down, down, down, down}, 0, over},
		{[]deal{down, down, down}, most, over},
		{[]deal{up, up, up, up, up}, 0, over},
		{[]deal{up, up, up, down, down, down}, 0, answer{}},
		{[]deal{down, down, down, up, up, up}, 0, answer{}},
		{[]deal{down, up, down, even, up, {3, 0}}, 0, answer{base: 1, tax: 2}},
		{[]deal{down, down}, 0, over},
		{[]deal{down, {0, 1}}, 0, over},
		{[]deal{down}, 1, over},
		{[]deal{down}, most, over},
		{nil, most, answer{left: most}},
		{[]deal{{0, 1}}, most, over},
		{[]deal{{1, 2}}, most - 1, answer{left: most}},
		{[]deal{{1, 1}}, most, answer{left: most}},
		{[]deal{{2, 1}}, most, answer{left: most - 1}},
		{[]deal{even, even, even}, most, answer{left: most}},
		{[]deal{down, down, {most, 5}}, 0, over},
		{[]deal{down, down, {most, 0}}, 0, answer{left: most}},
	} {
		check(t, ofPool(margin.Pool(x.l, 10000, x.carry)), x.want, "Pool", x.l, x.carry)
	}
}

// P23.2: as many as there may be, and one more
func TestPoolOfMany(t *testing.T) {
	l := make([]deal, api.MaxRows+1)
	for i := range l {
		l[i] = deal{i%7 + 2, 1}
	}
	for _, n := range []int{api.MaxRows - 1, api.MaxRows} {
		check(t, ofPool(margin.Pool(l[:n], 1900, 11)), modelPool(l[:n], 1900, 11), "Pool of", n)
	}
	check(t, ofPool(margin.Pool(l, 1900, 11)), answer{e: api.ErrArg}, "Pool of one more")
	l[api.MaxRows-1].Cost = -1
	check(t, ofPool(margin.Pool(l[:api.MaxRows], 1900, 11)), answer{e: api.ErrArg}, "a last one that may not be")
	for i := range l {
		l[i] = deal{most, 0}
	}
	check(t, ofPool(margin.Pool(l[:api.MaxRows], 1900, 11)), answer{e: api.ErrOver}, "Pool of the greatest")
	check(t, ofPool(margin.Pool(l, 1900, 11)), answer{e: api.ErrArg}, "one more, and over")
	for i := range l {
		l[i] = deal{0, 0}
	}
	check(t, ofPool(margin.Pool(l, 1900, 0)), answer{e: api.ErrArg}, "one more, of nothing")
	for i := range l {
		l[i] = deal{most, 0}
		if i >= api.MaxRows/2 {
			l[i] = deal{0, most}
		}
	}
	l[9].Cost = 12
	check(t, ofPool(margin.Pool(l[:api.MaxRows], 1900, 11)), answer{left: 23}, "Pool of the greatest, up and down")
}

// dealsOf tells deals by chance, whose sums are often near 0, or near the bound.
func dealsOf(c *rand.Rand) []deal {
	l := make([]deal, c.Intn(6))
	for i := range l {
		l[i] = deal{sideOf(c), sideOf(c)}
		switch c.Intn(4) {
		case 0:
			l[i].Cost = max(0, l[i].Price-c.Intn(9))
		case 1:
			l[i].Price = max(0, l[i].Cost-c.Intn(9))
		}
	}
	return l
}

// P23.2
func TestPoolIsTheModels(t *testing.T) {
	c := rand.New(rand.NewSource(232))
	var over, below, taxed int
	for range 60000 {
		l, bp, carry := dealsOf(c), c.Intn(10001), 0
		if c.Intn(3) > 0 {
			carry = sideOf(c)
		}
		want := modelPool(l, bp, carry)
		check(t, ofPool(margin.Pool(l, bp, carry)), want, "Pool", l, bp, carry)
		switch {
		case want.e == api.ErrOver:
			over++
		case want.left > 0:
			below++
		case want.base > 0:
			taxed++
		}
	}
	if over < 500 || below < 500 || taxed < 500 {
		t.Error("too few of a kind:", over, below, taxed)
	}
}

// P23.2
func TestPoolOfEachRate(t *testing.T) {
	for bp := -2; bp <= 10002; bp++ {
		for _, l := range [][]deal{nil, {{1000, 405}}, {{5, 9}}, {{most, 7}}, {{1190, 0}, {500, 499}, {3, 9}}} {
			check(t, ofPool(margin.Pool(l, bp, 2)), modelPool(l, bp, 2), "Pool", l, bp)
		}
	}
}

// P23.2: what is handed in stays as it was, its spare room too, and nothing behind it is looked at
func TestPoolLeavesDeals(t *testing.T) {
	room := []deal{{1000, 405}, {5, 9}, {7, 7}, {-1, math.MinInt}, {most, 0}}
	was := slices.Clone(room)
	check(t, ofPool(margin.Pool(room[:3], 1900, 1)), modelPool(was[:3], 1900, 1), "Pool")
	if !slices.Equal(room, was) {
		t.Error("changed:", room)
	}
	check(t, ofPool(margin.Pool(room[:2:2], 1900, 1)), modelPool(was[:2], 1900, 1), "Pool, once more")
}

// P23.3
func TestNeverBelow(t *testing.T) {
	c := rand.New(rand.NewSource(233))
	for range 40000 {
		l, bp, carry := dealsOf(c), c.Intn(10001), sideOf(c)>>c.Intn(62)
		one, all := ofOne(margin.Of(sideOf(c), sideOf(c), bp)), ofPool(margin.Pool(l, bp, carry))
		for _, x := range []answer{one, all} {
			if x.base < 0 || x.tax < 0 || x.left < 0 {
				t.Fatal("below 0:", x, l, bp, carry)
			}
		}
		if all.left > 0 && (all.base != 0 || all.tax != 0) {
			t.Fatal("taxed, and something left:", all, l, bp, carry)
		}
	}
}

// P23.4
func TestPoolHasNoMore(t *testing.T) {
	c := rand.New(rand.NewSource(234))
	for range 40000 {
		l, bp, carry := dealsOf(c), c.Intn(10001), c.Intn(9)
		pool := ofPool(margin.Pool(l, bp, carry))
		if pool.e != api.OK {
			continue
		}
		single := new(big.Int)
		for _, d := range l {
			x := ofOne(margin.Of(d.Price, d.Cost, bp))
			check(t, answer{e: x.e}, answer{}, "Of", d, bp)
			single.Add(single, number(x.base)).Add(single, number(x.tax))
		}
		if single.Cmp(number(pool.base+pool.tax)) < 0 {
			t.Fatal("one by one", single, "in a pool", pool, l, bp, carry)
		}
	}
}
