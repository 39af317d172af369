package money_test

import (
	"math"
	"math/big"
	"math/rand"
	"slices"
	"testing"

	"octroi/api"
	"octroi/money"
)

const most = api.MaxMoney

// edges are the numbers at which something changes, and some between them.
var edges = []int{
	math.MinInt, math.MinInt + 1, -most - 2, -most - 1, -most, -most + 1, -most / 2, -1 << 32, -101, -100, -99, -2, -1,
	0, 1, 2, 99, 100, 101, 1<<31 - 1, 1 << 32, most / 2, most/2 + 1, most - 1, most, most + 1, most + 2, math.MaxInt,
}

type answer struct {
	n int
	e api.Errno
}

func told(n int, e api.Errno) answer { return answer{n, e} }

func isAmount(n *big.Int) bool { return n.CmpAbs(big.NewInt(most)) <= 0 }

// model is the sum of all, reckoned without a bound: what is told of it, and of what was summed.
func model(l ...int) answer {
	sum := new(big.Int)
	for _, a := range l {
		if !isAmount(big.NewInt(int64(a))) {
			return answer{0, api.ErrArg}
		}
		sum.Add(sum, big.NewInt(int64(a)))
	}
	if !isAmount(sum) {
		return answer{0, api.ErrOver}
	}
	return answer{int(sum.Int64()), api.OK}
}

// P1.1
func TestMay(t *testing.T) {
	for _, a := range edges {
		if money.May(a) != isAmount(big.NewInt(int64(a))) {
			t.Error("May of", a)
		}
	}
	for _, a := range []int{most + 1, -most - 1, math.MinInt, math.MaxInt} {
		if money.May(a) {
			t.Error("an amount:", a)
		}
	}
	for _, a := range []int{most, -most, 0, 1, -1} {
		if !money.May(a) {
			t.Error("no amount:", a)
		}
	}
}

// P1.1
func TestAddSubNegTold(t *testing.T) {
	for i, x := range []struct{ got, want answer }{
		{told(money.Add(2, 3)), answer{5, api.OK}},
		{told(money.Add(2, -3)), answer{-1, api.OK}},
		{told(money.Add(most, -most)), answer{0, api.OK}},
		{told(money.Add(most, 1)), answer{0, api.ErrOver}},
		{told(money.Add(-most, -1)), answer{0, api.ErrOver}},
		{told(money.Add(-most, -most)), answer{0, api.ErrOver}},
		{told(money.Add(most+1, 0)), answer{0, api.ErrArg}},
		{told(money.Add(0, most+1)), answer{0, api.ErrArg}},
		{told(money.Add(math.MaxInt, math.MaxInt)), answer{0, api.ErrArg}},
		{told(money.Add(math.MinInt, math.MinInt)), answer{0, api.ErrArg}},
		{told(money.Add(most+1, -most-1)), answer{0, api.ErrArg}},
		{told(money.Sub(2, 3)), answer{-1, api.OK}},
		{told(money.Sub(most, most)), answer{0, api.OK}},
		{told(money.Sub(-most, 1)), answer{0, api.ErrOver}},
		{told(money.Sub(most, -1)), answer{0, api.ErrOver}},
		{told(money.Sub(most, -most)), answer{0, api.ErrOver}},
		{told(money.Sub(0, math.MinInt)), answer{0, api.ErrArg}},
		{told(money.Sub(math.MinInt, math.MinInt)), answer{0, api.ErrArg}},
		{told(money.Sub(most+1, most+1)), answer{0, api.ErrArg}},
		{told(money.Neg(7)), answer{-7, api.OK}},
		{told(money.Neg(0)), answer{0, api.OK}},
		{told(money.Neg(-most)), answer{most, api.OK}},
		{told(money.Neg(most)), answer{-most, api.OK}},
		{told(money.Neg(most + 1)), answer{0, api.ErrArg}},
		{told(money.Neg(-most - 1)), answer{0, api.ErrArg}},
		{told(money.Neg(math.MinInt)), answer{0, api.ErrArg}},
	} {
		if x.got != x.want {
			t.Error(i, x.got, "not", x.want)
		}
	}
}

// P1.1
func TestAddSubNegAtEdges(t *testing.T) {
	for _, a := range edges {
		if got := told(money.Neg(a)); got != model(-a) {
			t.Error("Neg of", a, got)
		}
		for _, b := range edges {
			if got, want := told(money.Add(a, b)), model(a, b); got != want {
				t.Error("Add of", a, b, got, "not", want)
			}
			if got, want := told(money.Sub(a, b)), model(a, -b); got != want {
				t.Error("Sub of", a, b, got, "not", want)
			}
		}
	}
}

// copies is a list of n times a.
func copies(n, a int) []int { return slices.Repeat([]int{a}, n) }

// P1.2
func TestSumTold(t *testing.T) {
	for i, x := range []struct {
		l    []int
		want answer
	}{
		{nil, answer{0, api.OK}},
		{[]int{}, answer{0, api.OK}},
		{[]int{-7}, answer{-7, api.OK}},
		{[]int{1, 2, 3, -10}, answer{-4, api.OK}},
		{[]int{most, most, -most}, answer{most, api.OK}},
		{[]int{-most, -most, most}, answer{-most, api.OK}},
		{[]int{most, most, -most, -most, 7}, answer{7, api.OK}},
		{[]int{most, 1}, answer{0, api.ErrOver}},
		{[]int{-most, -1}, answer{0, api.ErrOver}},
		{[]int{most, 1, -1, -1, 1}, answer{most, api.OK}},
		// Sums that are 0, or an amount, when 64 bits wrap round.
		{copies(4, most), answer{0, api.ErrOver}},
		{copies(4, -most), answer{0, api.ErrOver}},
		{copies(5, most), answer{0, api.ErrOver}},
		{copies(5, -most), answer{0, api.ErrOver}},
		{append(copies(8, most), 5), answer{0, api.ErrOver}},
		{append(copies(1000, most), copies(999, -most)...), answer{most, api.OK}},
		{append(copies(999, -most), copies(1000, most)...), answer{most, api.OK}},
		{copies(1<<18, most), answer{0, api.ErrOver}},
		// What is no amount is told first, wherever it stands.
		{[]int{most + 1}, answer{0, api.ErrArg}},
		{[]int{-most - 1, 1}, answer{0, api.ErrArg}},
		{[]int{1, 2, math.MinInt}, answer{0, api.ErrArg}},
		{[]int{most + 1, 3, 4}, answer{0, api.ErrArg}},
		{[]int{most, most, most, most + 1}, answer{0, api.ErrArg}},
		{[]int{most + 1, most, most}, answer{0, api.ErrArg}},
		{[]int{most, math.MaxInt, most}, answer{0, api.ErrArg}},
		{[]int{math.MaxInt, -math.MaxInt}, answer{0, api.ErrArg}},
		{[]int{math.MinInt, math.MinInt}, answer{0, api.ErrArg}},
	} {
		if got := told(money.Sum(x.l)); got != x.want {
			t.Error("Sum", i, got, "not", x.want)
		}
		if got := told(money.Total(x.l...)); got != x.want {
			t.Error("Total", i, got, "not", x.want)
		}
	}
}

// P1.2
func TestTotalTold(t *testing.T) {
	for i, x := range []struct{ got, want answer }{
		{told(money.Total()), answer{0, api.OK}},
		{told(money.Total(-3)), answer{-3, api.OK}},
		{told(money.Total(1, 2, 3)), answer{6, api.OK}},
		{told(money.Total(most, most, -most)), answer{most, api.OK}},
		{told(money.Total(most, most, most, -most)), answer{0, api.ErrOver}},
		{told(money.Total(most, most, most, most+1)), answer{0, api.ErrArg}},
	} {
		if x.got != x.want {
			t.Error(i, x.got, "not", x.want)
		}
	}
}

// P1.2
func TestSumIsTheModels(t *testing.T) {
	r := rand.New(rand.NewSource(1))
	for range 20000 {
		l := make([]int, r.Intn(12))
		for i := range l {
			switch l[i] = edges[r.Intn(len(edges))]; {
			case !money.May(l[i]) && r.Intn(8) > 0:
				l[i] = r.Intn(most) * (1 - 2*r.Intn(2))
			case r.Intn(3) == 0:
				l[i] = r.Intn(2001) - 1000
			}
		}
		if got, want := told(money.Sum(l)), model(l...); got != want {
			t.Fatal(l, got, "not", want)
		}
	}
}

// P1.2, with the rules on what is handed in
func TestSumLeavesItsList(t *testing.T) {
	room := []int{5, most, -most, math.MinInt, 9}
	kept := slices.Clone(room)
	if got := told(money.Sum(room[:3])); got != (answer{5, api.OK}) {
		t.Error(got)
	}
	if got := told(money.Total(room[:3]...)); got != (answer{5, api.OK}) {
		t.Error(got)
	}
	if !slices.Equal(room, kept) {
		t.Error(room)
	}
}

// P1.3
func TestPartTold(t *testing.T) {
	for _, x := range []struct {
		a, whole, cents int
		e               api.Errno
	}{
		{0, 0, 0, api.OK},
		{205, 2, 5, api.OK},
		{-205, -2, -5, api.OK},
		{7, 0, 7, api.OK},
		{-7, 0, -7, api.OK},
		{99, 0, 99, api.OK},
		{-99, 0, -99, api.OK},
		{100, 1, 0, api.OK},
		{-100, -1, 0, api.OK},
		{199, 1, 99, api.OK},
		{-199, -1, -99, api.OK},
		{most, 46116860184273879, 4, api.OK},
		{-most, -46116860184273879, -4, api.OK},
		{most + 1, 0, 0, api.ErrArg},
		{-most - 1, 0, 0, api.ErrArg},
		{math.MinInt, 0, 0, api.ErrArg},
		{math.MaxInt, 0, 0, api.ErrArg},
	} {
		if w, c, e := money.Part(x.a); w != x.whole || c != x.cents || e != x.e {
			t.Error("Part of", x.a, w, c, int(e))
		}
	}
}

// P1.3
func TestPartIsAll(t *testing.T) {
	for a := -1000; a <= 1000; a++ {
		w, c, e := money.Part(a)
		if e != api.OK || 100*w+c != a || c <= -100 || c >= 100 || a < 0 && (w > 0 || c > 0) || a > 0 && (w < 0 || c < 0) {
			t.Error("Part of", a, w, c, int(e))
		}
	}
}

// orders calls see with each order of l.
func orders(l []int, from int, see func([]int)) {
	if from == len(l) {
		see(l)
	}
	for i := from; i < len(l); i++ {
		l[from], l[i] = l[i], l[from]
		orders(l, from+1, see)
		l[from], l[i] = l[i], l[from]
	}
}

// P1.4
func TestOrderIsNothing(t *testing.T) {
	for _, l := range [][]int{
		{most, most, -most, -most, 7},
		{most, most, most, -most, -most, -1},
		{most, most, most, most, 1},
		{most, most, most, most, most, -1},
		{-most, -most, -most, 3, most},
		{most, most, -5, most + 1, 3},
		{math.MinInt, math.MinInt, most, -most, 1},
		{1, 2, 3, 4, 5, 6},
	} {
		want := model(l...)
		orders(l, 0, func(l []int) {
			if got := told(money.Sum(l)); got != want {
				t.Error("Sum of", l, got, "not", want)
			}
			if got := told(money.Total(l...)); got != want {
				t.Error("Total of", l, got, "not", want)
			}
		})
	}
	for _, a := range edges {
		for _, b := range edges {
			if told(money.Add(a, b)) != told(money.Add(b, a)) {
				t.Error("Add of", a, b)
			}
		}
	}
}
