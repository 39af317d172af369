package wide_test

import (
	"math"
	"math/big"
	"math/rand"
	"testing"

	"octroi/api"
	"octroi/money"
	"octroi/wide"
)

const most = api.MaxMoney

// edges are the numbers at which something changes, and some between them.
var edges = []int{
	math.MinInt, -most - 1, -most, -most + 1, -most / 2, -1 << 32, -1<<31 - 1, -10000, -7, -3, -2, -1,
	0, 1, 2, 3, 5, 7, 100, 10000, 1<<31 + 1, 1 << 32, most / 2, most - 1, most, most + 1, math.MaxInt,
}

type answer struct {
	n int
	e api.Errno
}

func told(n int, e api.Errno) answer { return answer{n, e} }

func number(n int) *big.Int { return big.NewInt(int64(n)) }

func times(a, b int) *big.Int { return new(big.Int).Mul(number(a), number(b)) }

func isAmount(n *big.Int) bool { return n.CmpAbs(number(most)) <= 0 }

func areAmounts(l ...int) bool {
	for _, a := range l {
		if !isAmount(number(a)) {
			return false
		}
	}
	return true
}

func amount(n *big.Int) answer {
	if !isAmount(n) {
		return answer{0, api.ErrOver}
	}
	return answer{int(n.Int64()), api.OK}
}

// mulDiv is the model of MulDiv: the greatest whole number not above the fraction's size and a half, with its sign.
func mulDiv(a, b, c int) answer {
	if !areAmounts(a, b, c) || c < 1 {
		return answer{0, api.ErrArg}
	}
	p := times(a, b)
	sign := number(p.Sign())
	p.Abs(p).Lsh(p, 1).Add(p, number(c))
	p.Div(p, new(big.Int).Lsh(number(c), 1))
	return amount(p.Mul(p, sign))
}

// ceil is the model of Ceil: the fraction turned about 0, rounded down, and turned back.
func ceil(a, b, c int) answer {
	if !areAmounts(a, b, c) || a < 0 || b < 0 || c < 1 {
		return answer{0, api.ErrArg}
	}
	p := times(a, b)
	p.Neg(p).Div(p, number(c))
	return amount(p.Neg(p))
}

func check(t *testing.T, got, want answer, call string, l ...int) {
	t.Helper()
	if got != want {
		t.Error(call, l, got, "not", want)
	}
}

// P2.1
func TestMulDivTold(t *testing.T) {
	for _, x := range []struct {
		a, b, c int
		want    answer
	}{
		{5, 1, 2, answer{3, api.OK}},
		{-5, 1, 2, answer{-3, api.OK}},
		{5, -1, 2, answer{-3, api.OK}},
		{-5, -1, 2, answer{3, api.OK}},
		{1, 1, 2, answer{1, api.OK}},
		{-1, 1, 2, answer{-1, api.OK}},
		{4, 1, 3, answer{1, api.OK}},
		{-4, 1, 3, answer{-1, api.OK}},
		{5, 1, 3, answer{2, api.OK}},
		{-5, 1, 3, answer{-2, api.OK}},
		{2, 1, 5, answer{0, api.OK}},
		{-2, 1, 5, answer{0, api.OK}},
		{0, -9, 5, answer{0, api.OK}},
		{-9, 0, 5, answer{0, api.OK}},
		{6, 7, 1, answer{42, api.OK}},
		{most, most, most, answer{most, api.OK}},
		{-most, most, most, answer{-most, api.OK}},
		{most, 1, 1, answer{most, api.OK}},
		{1, most, most, answer{1, api.OK}},
		{most - 1, most, most, answer{most - 1, api.OK}},
		{1, 1, most, answer{0, api.OK}},
		{most / 2, 1, most, answer{1, api.OK}},
		{most/2 - 1, 1, most, answer{0, api.OK}},
		{most, 3, 4, answer{most / 4 * 3, api.OK}},
		{most, 2, 2, answer{most, api.OK}},
		{most, most - 1, most, answer{most - 1, api.OK}},
		{most, most - 1, most - 2, answer{0, api.ErrOver}},
		{most, 2, 1, answer{0, api.ErrOver}},
		{-most, 2, 1, answer{0, api.ErrOver}},
		{most, 4, 1, answer{0, api.ErrOver}},
		{most, most, 1, answer{0, api.ErrOver}},
		{-most, most, 1, answer{0, api.ErrOver}},
		{most, most, most - 1, answer{0, api.ErrOver}},
		{1, 1, 0, answer{0, api.ErrArg}},
		{1, 1, -1, answer{0, api.ErrArg}},
		{0, 0, 0, answer{0, api.ErrArg}},
		{1, 1, most + 1, answer{0, api.ErrArg}},
		{1, 1, math.MinInt, answer{0, api.ErrArg}},
		{most + 1, 1, 1, answer{0, api.ErrArg}},
		{1, most + 1, 1, answer{0, api.ErrArg}},
		{-most - 1, 1, 2, answer{0, api.ErrArg}},
		{math.MinInt, 0, 1, answer{0, api.ErrArg}},
		{0, math.MinInt, 1, answer{0, api.ErrArg}},
		{most, most, 0, answer{0, api.ErrArg}},
		{math.MaxInt, math.MaxInt, 1, answer{0, api.ErrArg}},
	} {
		check(t, told(wide.MulDiv(x.a, x.b, x.c)), x.want, "MulDiv", x.a, x.b, x.c)
	}
}

// factors tells two amounts above 1 whose product is n, if there are any that are soon found.
func factors(n *big.Int) (a, b int, ok bool) {
	for b := 2; b < 1<<13; b++ {
		if q, r := new(big.Int).DivMod(n, number(b), new(big.Int)); r.Sign() == 0 && isAmount(q) {
			return int(q.Int64()), b, true
		}
	}
	return 0, 0, false
}

// P2.1: fractions that are above or below the greatest amount by less than 1
func TestAroundTheGreatest(t *testing.T) {
	var up, down, upCeil int
	for c := 2; c < 14; c++ {
		for off := 1 - c; off < c; off++ {
			a, b, ok := factors(new(big.Int).Add(times(most, c), number(off)))
			if !ok {
				continue
			}
			near, above := answer{most, api.OK}, answer{most, api.OK}
			switch {
			case 2*off >= c:
				near = answer{0, api.ErrOver}
				up++
			case off > 0:
				down++
			case 2*off < -c:
				near = answer{most - 1, api.OK}
			}
			if off > 0 {
				above = answer{0, api.ErrOver}
				upCeil++
			}
			check(t, told(wide.MulDiv(a, b, c)), near, "MulDiv", a, b, c)
			check(t, told(wide.MulDiv(-a, b, c)), answer{-near.n, near.e}, "MulDiv", -a, b, c)
			check(t, told(wide.Ceil(a, b, c)), above, "Ceil", a, b, c)
		}
	}
	if up == 0 || down == 0 || upCeil == 0 {
		t.Error("nothing was seen:", up, down, upCeil)
	}
}

// P2.1
func TestCeilTold(t *testing.T) {
	for _, x := range []struct {
		a, b, c int
		want    answer
	}{
		{7, 1, 3, answer{3, api.OK}},
		{6, 1, 3, answer{2, api.OK}},
		{1, 1, 3, answer{1, api.OK}},
		{1, 1, most, answer{1, api.OK}},
		{0, 5, 3, answer{0, api.OK}},
		{5, 0, 3, answer{0, api.OK}},
		{5, 7, 1, answer{35, api.OK}},
		{most, most, most, answer{most, api.OK}},
		{most - 1, most, most, answer{most - 1, api.OK}},
		{most - 1, most - 1, most, answer{most - 1, api.OK}},
		{most, most, most - 1, answer{0, api.ErrOver}},
		{most, 4, 1, answer{0, api.ErrOver}},
		{most, most, 1, answer{0, api.ErrOver}},
		{-7, 1, 3, answer{0, api.ErrArg}},
		{7, -1, 3, answer{0, api.ErrArg}},
		{-7, -1, 3, answer{0, api.ErrArg}},
		{-1, 0, 3, answer{0, api.ErrArg}},
		{0, -1, 3, answer{0, api.ErrArg}},
		{7, 1, 0, answer{0, api.ErrArg}},
		{7, 1, -3, answer{0, api.ErrArg}},
		{most + 1, 1, 1, answer{0, api.ErrArg}},
		{1, most + 1, 1, answer{0, api.ErrArg}},
		{1, 1, most + 1, answer{0, api.ErrArg}},
		{most, most, 0, answer{0, api.ErrArg}},
		{most, -most, 1, answer{0, api.ErrArg}},
	} {
		check(t, told(wide.Ceil(x.a, x.b, x.c)), x.want, "Ceil", x.a, x.b, x.c)
	}
}

// P2.1
func TestMulDivAndCeilAtEdges(t *testing.T) {
	for _, a := range edges {
		for _, b := range edges {
			for _, c := range edges {
				check(t, told(wide.MulDiv(a, b, c)), mulDiv(a, b, c), "MulDiv", a, b, c)
				check(t, told(wide.Ceil(a, b, c)), ceil(a, b, c), "Ceil", a, b, c)
			}
		}
	}
}

// P2.1
func TestMulDivAndCeilOfSmall(t *testing.T) {
	for a := -20; a <= 20; a++ {
		for b := -6; b <= 6; b++ {
			for c := -1; c <= 12; c++ {
				check(t, told(wide.MulDiv(a, b, c)), mulDiv(a, b, c), "MulDiv", a, b, c)
				check(t, told(wide.Ceil(a, b, c)), ceil(a, b, c), "Ceil", a, b, c)
			}
		}
	}
}

// chance tells amounts of all sizes, always the same ones.
func chance() func() int {
	r := rand.New(rand.NewSource(2))
	return func() int {
		n := r.Intn(1 << (1 + r.Intn(62)))
		if r.Intn(2) == 0 {
			return -n
		}
		return n
	}
}

// P2.1
func TestMulDivAndCeilAnywhere(t *testing.T) {
	next := chance()
	for range 50000 {
		a, b, c := next(), next(), next()
		check(t, told(wide.MulDiv(a, b, c)), mulDiv(a, b, c), "MulDiv", a, b, c)
		check(t, told(wide.Ceil(a, b, c)), ceil(a, b, c), "Ceil", a, b, c)
	}
}

// P2.2
func TestTaxTold(t *testing.T) {
	for _, x := range []struct {
		net, bp int
		want    answer
	}{
		{999, 1900, answer{190, api.OK}},
		{-999, 1900, answer{-190, api.OK}},
		{1000, 1900, answer{190, api.OK}},
		{1000, 0, answer{0, api.OK}},
		{0, 1900, answer{0, api.OK}},
		{1, 5000, answer{1, api.OK}},
		{1, 4999, answer{0, api.OK}},
		{-1, 5000, answer{-1, api.OK}},
		{7, 10000, answer{7, api.OK}},
		{most, 10000, answer{most, api.OK}},
		{-most, 10000, answer{-most, api.OK}},
		{1, 10001, answer{0, api.ErrArg}},
		{1, -1, answer{0, api.ErrArg}},
		{0, math.MinInt, answer{0, api.ErrArg}},
		{0, math.MaxInt, answer{0, api.ErrArg}},
		{most + 1, 1900, answer{0, api.ErrArg}},
		{-most - 1, 0, answer{0, api.ErrArg}},
		{math.MinInt, -1, answer{0, api.ErrArg}},
	} {
		check(t, told(wide.Tax(x.net, x.bp)), x.want, "Tax", x.net, x.bp)
	}
}

// P2.2
func TestInsideTold(t *testing.T) {
	for _, x := range []struct {
		gross, bp int
		want      answer
	}{
		{1189, 1900, answer{190, api.OK}},
		{-1189, 1900, answer{-190, api.OK}},
		{1190, 1900, answer{190, api.OK}},
		{1190, 0, answer{0, api.OK}},
		{0, 1900, answer{0, api.OK}},
		{1, 10000, answer{1, api.OK}},
		{-1, 10000, answer{-1, api.OK}},
		{10, 10000, answer{5, api.OK}},
		{1, 9999, answer{0, api.OK}},
		{most, 10000, answer{most / 2, api.OK}},
		{-most, 10000, answer{-most / 2, api.OK}},
		{1, 10001, answer{0, api.ErrArg}},
		{1, -1, answer{0, api.ErrArg}},
		{0, math.MinInt, answer{0, api.ErrArg}},
		{0, math.MaxInt, answer{0, api.ErrArg}},
		{most + 1, 1900, answer{0, api.ErrArg}},
		{-most - 1, 0, answer{0, api.ErrArg}},
	} {
		check(t, told(wide.Inside(x.gross, x.bp)), x.want, "Inside", x.gross, x.bp)
	}
}

// P2.2
func TestPercentTold(t *testing.T) {
	for _, x := range []struct {
		a, n int
		want answer
	}{
		{101, 50, answer{51, api.OK}},
		{-101, 50, answer{-51, api.OK}},
		{101, 49, answer{49, api.OK}},
		{101, 0, answer{0, api.OK}},
		{101, 100, answer{101, api.OK}},
		{1, 1, answer{0, api.OK}},
		{most, 100, answer{most, api.OK}},
		{-most, 100, answer{-most, api.OK}},
		{most, 50, answer{most / 2, api.OK}},
		{1, 101, answer{0, api.ErrArg}},
		{1, -1, answer{0, api.ErrArg}},
		{0, math.MinInt, answer{0, api.ErrArg}},
		{0, math.MaxInt, answer{0, api.ErrArg}},
		{most + 1, 50, answer{0, api.ErrArg}},
		{-most - 1, 0, answer{0, api.ErrArg}},
	} {
		check(t, told(wide.Percent(x.a, x.n)), x.want, "Percent", x.a, x.n)
	}
}

// P2.2
func TestRatesAndPercentages(t *testing.T) {
	next := chance()
	for bp := 0; bp <= api.MaxBp; bp++ {
		for _, a := range []int{next(), -most, most, 1, -1, 4999, 12345} {
			check(t, told(wide.Tax(a, bp)), mulDiv(a, bp, 10000), "Tax", a, bp)
			check(t, told(wide.Inside(a, bp)), mulDiv(a, bp, 10000+bp), "Inside", a, bp)
		}
	}
	for n := 0; n <= 100; n++ {
		for a := -150; a <= 150; a++ {
			check(t, told(wide.Percent(a, n)), mulDiv(a, n, 100), "Percent", a, n)
		}
		a := next()
		check(t, told(wide.Percent(a, n)), mulDiv(a, n, 100), "Percent", a, n)
	}
}

// checkLess holds Less against the model.
func checkLess(t *testing.T, a, b, c, d int) {
	t.Helper()
	want, wantE := times(a, b).Cmp(times(c, d)) < 0, api.OK
	if !areAmounts(a, b, c, d) {
		want, wantE = false, api.ErrArg
	}
	if is, e := wide.Less(a, b, c, d); is != want || e != wantE {
		t.Error("Less", a, b, c, d, is, int(e))
	}
}

// P2.3
func TestLessTold(t *testing.T) {
	for _, x := range []struct {
		a, b, c, d int
		want       bool
		e          api.Errno
	}{
		{2, 3, 7, 1, true, api.OK},
		{7, 1, 2, 3, false, api.OK},
		{2, 3, 3, 2, false, api.OK},
		{-2, 3, 3, -2, false, api.OK},
		{-1, 5, 0, 9, true, api.OK},
		{0, 9, -1, 5, false, api.OK},
		{0, 9, 1, 5, true, api.OK},
		{0, -9, 1, 5, true, api.OK},
		{0, -9, 0, 5, false, api.OK},
		{0, 9, -5, 0, false, api.OK},
		{-2, 3, -7, 1, false, api.OK},
		{-7, 1, -2, 3, true, api.OK},
		{-7, 1, 2, 3, true, api.OK},
		{7, 1, -2, 3, false, api.OK},
		{-7, -1, 2, 3, false, api.OK},
		{-2, -3, 7, 1, true, api.OK},
		{most, most, most, most, false, api.OK},
		{most, most - 1, most, most, true, api.OK},
		{most, -most, most, most, true, api.OK},
		{most, most, most, -most, false, api.OK},
		{most, -most, -most, most - 1, true, api.OK},
		{most, 4, 0, 1, false, api.OK}, // 0 in 64 bits
		{0, 1, most, 4, true, api.OK},
		{most, 4, 1, 1, false, api.OK},
		{most, -4, 0, 1, true, api.OK},
		{most, 8, most, 4, false, api.OK}, // alike in the lower half
		{most, 4, most, 8, true, api.OK},
		{most + 1, 1, 1, 1, false, api.ErrArg},
		{1, most + 1, 1, 1, false, api.ErrArg},
		{0, 1, most + 1, 1, false, api.ErrArg},
		{0, 1, 1, most + 1, false, api.ErrArg},
		{-most - 1, 1, 1, 1, false, api.ErrArg},
		{1, math.MinInt, 1, 1, false, api.ErrArg},
		{-1, 1, 1, math.MaxInt, false, api.ErrArg},
	} {
		if is, e := wide.Less(x.a, x.b, x.c, x.d); is != x.want || e != x.e {
			t.Error("Less", x.a, x.b, x.c, x.d, is, int(e))
		}
	}
}

// P2.3
func TestLessIsTheModels(t *testing.T) {
	for _, a := range edges {
		for _, b := range edges {
			for _, c := range edges {
				checkLess(t, a, b, c, 1)
				checkLess(t, 1, a, b, c)
				checkLess(t, a, b, b, c)
				checkLess(t, a, b, most, c)
			}
		}
	}
	next := chance()
	for range 50000 {
		a, b, c, d := next(), next(), next(), next()
		checkLess(t, a, b, c, d)
		checkLess(t, a, b, b, a)
	}
}

// P2.4
func TestNear(t *testing.T) {
	next := chance()
	for range 50000 {
		a, b, c := next(), next(), next()
		n, e := wide.MulDiv(a, b, c)
		if e != api.OK {
			continue
		}
		away := new(big.Int).Sub(times(n, c), times(a, b))
		if away.Lsh(away, 1).CmpAbs(number(c)) > 0 {
			t.Error("MulDiv", a, b, c, n)
		}
	}
}

// P2.5
func TestTurned(t *testing.T) {
	next := chance()
	for range 50000 {
		a, b, c := next(), next(), next()
		n, e := wide.MulDiv(a, b, c)
		check(t, told(wide.MulDiv(-a, b, c)), answer{-n, e}, "MulDiv", -a, b, c)
		check(t, told(wide.MulDiv(a, -b, c)), answer{-n, e}, "MulDiv", a, -b, c)
		check(t, told(wide.MulDiv(-a, -b, c)), answer{n, e}, "MulDiv", -a, -b, c)
	}
}

// checkWhole holds the tax inside net and its tax against that tax, if both together are an amount.
func checkWhole(t *testing.T, net, bp int) {
	t.Helper()
	tax, e := wide.Tax(net, bp)
	if e != api.OK {
		t.Error("Tax", net, bp, int(e))
	}
	if gross, e := money.Add(net, tax); e == api.OK {
		check(t, told(wide.Inside(gross, bp)), answer{tax, api.OK}, "Inside", gross, bp)
	}
}

// P2.6
func TestWhole(t *testing.T) {
	next := chance()
	for bp := 0; bp <= api.MaxBp; bp++ {
		for _, net := range []int{next(), next(), 1, -1, 4999, 5000, 5001, -5000, most / 2, -most / 2, most} {
			checkWhole(t, net, bp)
		}
	}
	for net := -3000; net <= 3000; net++ {
		for _, bp := range []int{0, 1, 500, 700, 1000, 1900, 2000, 2550, 3333, 9999, 10000} {
			checkWhole(t, net, bp)
		}
	}
}
