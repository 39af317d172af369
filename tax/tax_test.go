package tax_test

import (
	"math"
	"math/big"
	"math/rand"
	"slices"
	"testing"

	"octroi/api"
	"octroi/rates"
	"octroi/tax"
	"octroi/timeline"
)

const most = api.MaxMoney

var (
	either     = []bool{false, true}
	amounts    = []int{0, 1, -1, 2, -2, 3, 5, -5, 50, 99, 100, -100, 999, 1000, 1189, 1190, -1190, 1 << 31, 1<<32 + 1, -1 << 40, most/3*2 + 1, most/2 - 1, most / 2, most/2 + 1, -most / 2, -most/2 - 1, most - 1, 1 - most, most, -most}
	noAmounts  = []int{most + 1, -most - 1, math.MaxInt, math.MinInt, math.MinInt + 1}
	someRates  = []int{0, 1, 2, 210, 499, 500, 501, 550, 700, 1000, 1600, 1900, 2000, 2500, 3333, 4999, 5000, 5001, 9999, 10000}
	noRates    = []int{-1, 10001, -10000, math.MinInt, math.MaxInt, 1 << 32, 1<<32 + 1900, -1<<32 + 1900, most, -most}
	noPercents = []int{-1, 101, -100, 1000, math.MinInt, math.MaxInt, 1 << 32, 1<<32 + 50, most, -most}
)

// parts is what Part tells.
type parts struct {
	net, tax int
	e        api.Errno
}

// known is what Of tells.
type known struct {
	bp int
	parts
}

// answer is what Net and Deduct tell.
type answer struct {
	n int
	e api.Errno
}

func told(n int, e api.Errno) answer { return answer{n, e} }

func parted(net, tax int, e api.Errno) parts { return parts{net, tax, e} }

func knew(bp, net, tax int, e api.Errno) known { return known{bp, parts{net, tax, e}} }

func number(n int) *big.Int { return big.NewInt(int64(n)) }

func isAmount(n *big.Int) bool { return n.CmpAbs(number(1<<62)) <= 0 }

// fraction tells a · b / c in whole numbers without a bound, rounded half away from 0.
func fraction(a, b, c int) *big.Int {
	p := new(big.Int).Mul(number(a), number(b))
	sign := number(p.Sign())
	p.Abs(p).Lsh(p, 1).Add(p, number(c))
	p.Div(p, number(2*c))
	return p.Mul(p, sign)
}

// model is Part, word for word as the document says it.
func model(amount int, gross bool, bp int) parts {
	if !isAmount(number(amount)) || bp < 0 || bp > 10000 {
		return parts{e: api.ErrArg}
	}
	if gross {
		inside := fraction(amount, bp, 10000+bp)
		return parts{int(new(big.Int).Sub(number(amount), inside).Int64()), int(inside.Int64()), api.OK}
	}
	above := fraction(amount, bp, 10000)
	if !isAmount(new(big.Int).Add(number(amount), above)) {
		return parts{e: api.ErrOver}
	}
	return parts{amount, int(above.Int64()), api.OK}
}

func check[T comparable](t *testing.T, got, want T, what ...any) {
	t.Helper()
	if got != want {
		t.Fatalf("%v: %v, not %v", what, got, want)
	}
}

// checkPart holds Part and Net to these parts, or to that error.
func checkPart(t *testing.T, amount int, gross bool, bp int, want parts) {
	t.Helper()
	check(t, parted(tax.Part(amount, gross, bp)), want, "Part", amount, gross, bp)
	check(t, told(tax.Net(amount, gross, bp)), answer{want.net, want.e}, "Net", amount, gross, bp)
}

// P21.1
func TestPartTold(t *testing.T) {
	for _, x := range []struct {
		amount   int
		gross    bool
		bp       int
		net, tax int
	}{
		{1190, true, 1900, 1000, 190},
		{-1190, true, 1900, -1000, -190},
		{1000, false, 1900, 1000, 190},
		{-1000, false, 1900, -1000, -190},
		{999, false, 1900, 999, 190}, // 189.81
		{1189, true, 1900, 999, 190},
		{0, false, 1900, 0, 0},
		{0, true, 1900, 0, 0},
		{1000, false, 0, 1000, 0},
		{1000, true, 0, 1000, 0},
		{1, false, 10000, 1, 1},
		{1, true, 10000, 0, 1}, // a half, away from 0
		{-1, true, 10000, 0, -1},
		{2, true, 10000, 1, 1},
		{3, true, 10000, 1, 2},
		{-3, true, 10000, -1, -2},
		{1, false, 5000, 1, 1}, // a half
		{-1, false, 5000, -1, -1},
		{1, false, 4999, 1, 0},
		{-1, false, 4999, -1, 0},
		{3, false, 5000, 3, 2},
		{1, true, 5000, 1, 0}, // a third
		{2, true, 5000, 1, 1}, // two thirds
		{99, false, 1000, 99, 10},
		{33, false, 1000, 33, 3},
		{most, false, 0, most, 0},
		{-most, false, 0, -most, 0},
		{most, true, 0, most, 0},
		{most, true, 10000, most / 2, most / 2},
		{-most, true, 10000, -most / 2, -most / 2},
		{most - 1, true, 10000, most/2 - 1, most / 2},
		{most / 2, false, 10000, most / 2, most / 2},
		{-most / 2, false, 10000, -most / 2, -most / 2},
		{1 - most, false, 0, 1 - most, 0},
	} {
		checkPart(t, x.amount, x.gross, x.bp, parts{x.net, x.tax, api.OK})
	}
}

// P21.1: what may not be, ahead of what is over
func TestPartRefused(t *testing.T) {
	refused := parts{e: api.ErrArg}
	for _, gross := range either {
		for _, amount := range noAmounts {
			for _, bp := range slices.Concat(someRates, noRates) {
				checkPart(t, amount, gross, bp, refused)
			}
		}
		for _, bp := range noRates {
			for _, amount := range slices.Concat(amounts, noAmounts) {
				checkPart(t, amount, gross, bp, refused)
			}
		}
	}
}

// P21.1: the greatest net amount whose tax goes with it into an amount, and the one beyond it; of gross ones none is over
func TestPartOver(t *testing.T) {
	for _, bp := range someRates[1:] {
		least, beyond := 0, most // of the first it is told, of the second it is over
		for beyond-least > 1 {
			half := least + (beyond-least)/2
			if model(half, false, bp).e == api.OK {
				least = half
			} else {
				beyond = half
			}
		}
		for _, sign := range []int{1, -1} {
			checkPart(t, sign*least, false, bp, model(sign*least, false, bp))
			checkPart(t, sign*beyond, false, bp, parts{e: api.ErrOver})
			checkPart(t, sign*most, false, bp, parts{e: api.ErrOver})
			net, tax, e := tax.Part(sign*most, true, bp)
			check(t, e, api.OK, "gross", sign*most, bp)
			check(t, net+tax, sign*most, "gross", sign*most, bp)
		}
		check(t, model(least, false, bp).e, api.OK, "the greatest", least, bp)
	}
	checkPart(t, most/2+1, false, 10000, parts{e: api.ErrOver})
	checkPart(t, -most/2-1, false, 10000, parts{e: api.ErrOver})
	checkPart(t, most, false, 1, parts{e: api.ErrOver})
}

// P21.1
func TestPartOfSmall(t *testing.T) {
	for amount := -120; amount <= 120; amount++ {
		for bp := 0; bp <= 10000; bp += 7 {
			for _, gross := range either {
				checkPart(t, amount, gross, bp, model(amount, gross, bp))
			}
		}
	}
}

// P21.1
func TestPartOfEachRate(t *testing.T) {
	for bp := -2; bp <= 10002; bp++ {
		for _, amount := range amounts {
			for _, gross := range either {
				checkPart(t, amount, gross, bp, model(amount, gross, bp))
			}
		}
	}
}

// amountOf tells an amount of any size by chance.
func amountOf(c *rand.Rand) int {
	a := int(c.Int63()>>1) >> c.Intn(62)
	if c.Intn(2) == 0 {
		return -a
	}
	return a
}

// P21.1
func TestPartIsTheModels(t *testing.T) {
	c := rand.New(rand.NewSource(21))
	over := 0
	for range 60000 {
		amount, gross, bp := amountOf(c), c.Intn(2) == 0, c.Intn(10001)
		want := model(amount, gross, bp)
		checkPart(t, amount, gross, bp, want)
		if want.e == api.ErrOver {
			over++
		}
	}
	if over < 50 {
		t.Error("only", over, "were over")
	}
}

// P21.4
func TestWhole(t *testing.T) {
	c := rand.New(rand.NewSource(214))
	for i := range 40000 {
		amount, bp := amountOf(c), c.Intn(10001)
		if i < len(amounts)*len(someRates) {
			amount, bp = amounts[i%len(amounts)], someRates[i/len(amounts)]
		}
		net, inside, e := tax.Part(amount, true, bp)
		check(t, e, api.OK, "gross", amount, bp)
		check(t, net+inside, amount, "net and tax of", amount, bp)
		for _, gross := range either {
			one, turned := parted(tax.Part(amount, gross, bp)), parted(tax.Part(-amount, gross, bp))
			check(t, turned, parts{-one.net, -one.tax, one.e}, "turned", amount, gross, bp)
		}
	}
}

// P21.5
func TestMoreHasNoLess(t *testing.T) {
	c := rand.New(rand.NewSource(215))
	for range 40000 {
		amount, bp, gross := amountOf(c), c.Intn(10001), c.Intn(2) == 0
		more := amount + c.Intn(1<<c.Intn(40)+1)
		a, b := parted(tax.Part(amount, gross, bp)), parted(tax.Part(more, gross, bp))
		if a.e == api.OK && b.e == api.OK && b.tax < a.tax {
			t.Fatal("of", more, "less than of", amount, gross, bp, b.tax, a.tax)
		}
	}
	for _, bp := range someRates {
		for _, gross := range either {
			below := parts{tax: math.MinInt}
			for amount := -400; amount <= 400; amount++ {
				one := parted(tax.Part(amount, gross, bp))
				if one.e != api.OK || one.tax < below.tax {
					t.Fatal("of", amount, "less than of one less", gross, bp)
				}
				below = one
			}
		}
	}
}

// put holds a rate to be set.
func put(t *testing.T, r *rates.Rates, state string, category, from, until, bp int) {
	t.Helper()
	check(t, r.Set(state, category, timeline.Span{From: from, Until: until}, bp), api.OK, "set", state, category, from, until, bp)
}

// some tells rates of two states.
func some(t *testing.T) *rates.Rates {
	t.Helper()
	r := rates.New()
	put(t, r, "DE", api.Standard, 0, 99, 1600)
	put(t, r, "DE", api.Standard, 100, api.MaxDay, 1900)
	put(t, r, "DE", api.Reduced, 0, api.MaxDay, 700)
	put(t, r, "FR", api.Standard, 50, 60, 2000)
	put(t, r, "FR", api.Low, 0, 0, 210)
	put(t, r, "SE", api.Standard, 0, 9, 10000)
	return r
}

// P21.2
func TestOfTold(t *testing.T) {
	r := some(t)
	for _, x := range []struct {
		state                 string
		category, day, amount int
		gross                 bool
		want                  known
	}{
		{"DE", api.Standard, 0, 1000, false, known{1600, parts{1000, 160, api.OK}}},
		{"DE", api.Standard, 99, 1160, true, known{1600, parts{1000, 160, api.OK}}},
		{"DE", api.Standard, 100, 1190, true, known{1900, parts{1000, 190, api.OK}}},
		{"DE", api.Standard, api.MaxDay, -1190, true, known{1900, parts{-1000, -190, api.OK}}},
		{"DE", api.Standard, 5000, 999, false, known{1900, parts{999, 190, api.OK}}},
		{"DE", api.Reduced, 100, 1070, true, known{700, parts{1000, 70, api.OK}}},
		{"DE", api.Reduced, 100, 0, true, known{700, parts{0, 0, api.OK}}},
		{"DE", api.Nought, 100, 1190, true, known{0, parts{1190, 0, api.OK}}},
		{"DE", api.Exempt, 100, 1190, false, known{0, parts{1190, 0, api.OK}}},
		{"IT", api.Nought, 100, -7, false, known{0, parts{-7, 0, api.OK}}},
		{"FR", api.Standard, 50, 100, false, known{2000, parts{100, 20, api.OK}}},
		{"FR", api.Standard, 60, 120, true, known{2000, parts{100, 20, api.OK}}},
		{"FR", api.Low, 0, 10000, false, known{210, parts{10000, 210, api.OK}}},
		{"SE", api.Standard, 9, most, true, known{10000, parts{most / 2, most / 2, api.OK}}},
		{"SE", api.Standard, 9, most / 2, false, known{10000, parts{most / 2, most / 2, api.OK}}},
	} {
		check(t, knew(tax.Of(r, x.state, x.category, x.day, x.amount, x.gross)), x.want, x)
	}
}

// P21.2: rates' errors first, then Part's, and nothing is told beside one
func TestOfRefused(t *testing.T) {
	r := some(t)
	refused := func(r *rates.Rates, state string, category, day, amount int, want api.Errno) {
		t.Helper()
		for _, gross := range either {
			check(t, knew(tax.Of(r, state, category, day, amount, gross)), known{0, parts{0, 0, want}}, state, category, day, amount, gross)
		}
	}
	for _, amount := range slices.Concat(amounts, noAmounts) {
		for _, state := range []string{"DE", "FR", "US", ""} {
			for _, category := range []int{0, api.Standard, api.Nought, 6} {
				refused(nil, state, category, 0, amount, api.ErrNil)
				refused(new(rates.Rates), state, category, -1, amount, api.ErrNil)
			}
		}
		for _, state := range []string{"", "US", "GB", "de", "DEU", "XX"} {
			for _, category := range []int{0, api.Standard, api.Nought, api.Exempt, 6} {
				refused(r, state, category, 0, amount, api.ErrName)
			}
		}
		for _, category := range []int{0, -1, 6, math.MinInt, math.MaxInt, 1<<32 + 1} {
			refused(r, "DE", category, 0, amount, api.ErrArg)
		}
		for _, day := range []int{-1, 49, 61, api.MaxDay, api.MaxDay + 1, math.MinInt, math.MaxInt} {
			refused(r, "FR", api.Standard, day, amount, api.ErrRate)
		}
		refused(r, "IT", api.Standard, 55, amount, api.ErrRate)
		refused(r, "DE", api.Low, 55, amount, api.ErrRate)
	}
	for _, amount := range noAmounts {
		refused(r, "DE", api.Standard, 55, amount, api.ErrArg)
		refused(r, "DE", api.Exempt, 55, amount, api.ErrArg)
	}
	for _, amount := range []int{most, -most, most/2 + 1, -most/2 - 1} {
		check(t, knew(tax.Of(r, "SE", api.Standard, 0, amount, false)), known{0, parts{0, 0, api.ErrOver}}, "over", amount)
	}
}

// P21.2
func TestOfIsRatesAndPart(t *testing.T) {
	c, r := rand.New(rand.NewSource(212)), some(t)
	states := []string{"DE", "FR", "SE", "IT", "US"}
	days := []int{-1, 0, 9, 10, 49, 50, 60, 61, 99, 100, api.MaxDay, api.MaxDay + 1}
	for range 20000 {
		state, category, day := states[c.Intn(len(states))], c.Intn(7), days[c.Intn(len(days))]
		amount, gross := amountOf(c), c.Intn(2) == 0
		if c.Intn(20) == 0 {
			amount = noAmounts[c.Intn(len(noAmounts))]
		}
		var want known
		bp, e := r.Of(state, category, day)
		if want.e = e; e == api.OK {
			if want.parts = model(amount, gross, bp); want.e == api.OK {
				want.bp = bp
			}
		}
		check(t, knew(tax.Of(r, state, category, day, amount, gross)), want, state, category, day, amount, gross)
	}
	check(t, r.Len(), 6, "spans behind all that was asked")
	if l := r.States(); !slices.Equal(l, []string{"DE", "FR", "SE"}) {
		t.Error("states behind all that was asked:", l)
	}
}

// P21.3
func TestDeductTold(t *testing.T) {
	for _, x := range []struct {
		tax, percent int
		mixed        bool
		want         int
	}{
		{190, 33, true, 63}, // 62.7
		{-190, 33, true, -63},
		{190, 33, false, 190},
		{-190, 33, false, -190},
		{190, 0, true, 0},
		{190, 0, false, 190},
		{190, 100, true, 190},
		{190, 100, false, 190},
		{1, 50, true, 1}, // a half, away from 0
		{-1, 50, true, -1},
		{1, 49, true, 0},
		{-1, 49, true, 0},
		{0, 50, true, 0},
		{0, 50, false, 0},
		{5, 10, true, 1},
		{most, 100, true, most},
		{-most, 100, true, -most},
		{most, 50, true, most / 2},
		{most, 0, false, most},
		{-most, 1, false, -most},
	} {
		check(t, told(tax.Deduct(x.tax, x.percent, x.mixed)), answer{x.want, api.OK}, "Deduct", x)
	}
}

// P21.3: what may not be, whether mixed or not
func TestDeductRefused(t *testing.T) {
	refused := answer{0, api.ErrArg}
	for _, mixed := range either {
		for _, a := range noAmounts {
			for _, percent := range append([]int{0, 1, 50, 100}, noPercents...) {
				check(t, told(tax.Deduct(a, percent, mixed)), refused, "Deduct", a, percent, mixed)
			}
		}
		for _, percent := range noPercents {
			for _, a := range slices.Concat(amounts, noAmounts) {
				check(t, told(tax.Deduct(a, percent, mixed)), refused, "Deduct", a, percent, mixed)
			}
		}
	}
}

// P21.3
func TestDeductOfEachPercent(t *testing.T) {
	c := rand.New(rand.NewSource(213))
	l := slices.Clone(amounts)
	for range 300 {
		l = append(l, amountOf(c))
	}
	for a := -250; a <= 250; a++ {
		l = append(l, a)
	}
	for percent := range 101 {
		for _, a := range l {
			check(t, told(tax.Deduct(a, percent, false)), answer{a, api.OK}, "all of", a, percent)
			check(t, told(tax.Deduct(a, percent, true)), answer{int(fraction(a, percent, 100).Int64()), api.OK}, "a share of", a, percent)
		}
	}
}
