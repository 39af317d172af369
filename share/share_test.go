package share_test

import (
	"math"
	"math/big"
	"math/rand"
	"slices"
	"testing"

	"octroi/api"
	"octroi/share"
)

const (
	most     = api.MaxMoney
	heaviest = api.MaxWeight
)

// notAmounts are numbers that are no amounts.
var notAmounts = []int{most + 1, -most - 1, math.MaxInt, math.MinInt, math.MinInt + 1}

type answer struct {
	l []int
	e api.Errno
}

func told(l []int, e api.Errno) answer { return answer{l, e} }

func check(t *testing.T, got, want answer, what ...any) {
	t.Helper()
	if got.e != want.e || !slices.Equal(got.l, want.l) {
		t.Errorf("%v: %v %d, not %v %d", what, got.l, int(got.e), want.l, int(want.e))
	}
}

func number(n int) *big.Int { return big.NewInt(int64(n)) }

func isAmount(n *big.Int) bool { return n.CmpAbs(number(most)) <= 0 }

func isOutside(n, least, greatest int) bool { return n < least || n > greatest }

func sum(l []int) *big.Int {
	all := new(big.Int)
	for _, n := range l {
		all.Add(all, number(n))
	}
	return all
}

// parted is the model of a split that may be: units are given one after the other, to the greatest remainder that had none yet.
func parted(total *big.Int, weights []int) []*big.Int {
	all, left := sum(weights), new(big.Int).Set(total)
	parts, rests := make([]*big.Int, len(weights)), make([]*big.Int, len(weights))
	for i, w := range weights {
		parts[i], rests[i] = new(big.Int).QuoRem(new(big.Int).Mul(total, number(w)), all, new(big.Int))
		left.Sub(left, parts[i])
	}
	unit := number(total.Sign())
	for left.Sign() != 0 {
		best := 0
		for i := range rests {
			if rests[i].CmpAbs(rests[best]) > 0 {
				best = i
			}
		}
		parts[best].Add(parts[best], unit)
		left.Sub(left, unit)
		rests[best].SetInt64(0)
	}
	return parts
}

// split is the model of Split.
func split(total int, weights []int) answer {
	if !isAmount(number(total)) || isOutside(len(weights), 1, api.MaxShares) || sum(weights).Sign() == 0 {
		return answer{nil, api.ErrArg}
	}
	for _, w := range weights {
		if isOutside(w, 0, heaviest) {
			return answer{nil, api.ErrArg}
		}
	}
	return answer{small(parted(number(total), weights)), api.OK}
}

// fix is the model of Fix.
func fix(total int, l []int) answer {
	if !isAmount(number(total)) || isOutside(len(l), 1, api.MaxShares) {
		return answer{nil, api.ErrArg}
	}
	weights := make([]int, len(l))
	for i, a := range l {
		if isOutside(a, -heaviest, heaviest) {
			return answer{nil, api.ErrArg}
		}
		weights[i] = max(a, -a)
	}
	if sum(weights).Sign() == 0 {
		weights = slices.Repeat([]int{1}, len(l))
	}
	lack := new(big.Int).Sub(number(total), sum(l))
	if !isAmount(lack) {
		return answer{nil, api.ErrOver}
	}
	parts := parted(lack, weights)
	for i, a := range l {
		if parts[i].Add(parts[i], number(a)); !isAmount(parts[i]) {
			return answer{nil, api.ErrOver}
		}
	}
	return answer{small(parts), api.OK}
}

func small(l []*big.Int) []int {
	told := make([]int, len(l))
	for i, n := range l {
		told[i] = int(n.Int64())
	}
	return told
}

// copies is a list of n times a.
func copies(n, a int) []int { return slices.Repeat([]int{a}, n) }

// P3.1
func TestSplitTold(t *testing.T) {
	for _, x := range []struct {
		total   int
		weights []int
		want    []int
	}{
		{100, []int{1, 1, 1}, []int{34, 33, 33}},
		{-100, []int{1, 1, 1}, []int{-34, -33, -33}},
		{200, []int{1, 1, 1}, []int{67, 67, 66}},
		{-200, []int{1, 1, 1}, []int{-67, -67, -66}},
		{0, []int{1, 2, 3}, []int{0, 0, 0}},
		{7, []int{5}, []int{7}},
		{1, []int{0, 0, 1, 0}, []int{0, 0, 1, 0}},
		{1, []int{0, 1, 1}, []int{0, 1, 0}},
		{-1, []int{0, 1, 1}, []int{0, -1, 0}},
		// The greatest remainder, wherever it stands: 1.25, 2.5, 6.25.
		{10, []int{1, 2, 5}, []int{1, 3, 6}},
		{-10, []int{1, 2, 5}, []int{-1, -3, -6}},
		{10, []int{5, 1, 2}, []int{6, 1, 3}},
		{10, []int{5, 2, 1}, []int{6, 3, 1}},
		// Two units for three remainders, of which two are the same: 0.4, 0.8, 0.8 and 0.6, 0.6, 0.8.
		{2, []int{1, 2, 2}, []int{0, 1, 1}},
		{2, []int{3, 3, 4}, []int{1, 0, 1}},
		{-2, []int{3, 3, 4}, []int{-1, 0, -1}},
		// Not the greatest weight, but the greatest remainder: 2.2, 0.4, 0.4.
		{3, []int{11, 2, 2}, []int{2, 1, 0}},
		{most, []int{heaviest}, []int{most}},
		{-most, []int{heaviest}, []int{-most}},
		{most, []int{heaviest, heaviest}, []int{most / 2, most / 2}},
		{most, []int{0, heaviest, 0}, []int{0, most, 0}},
		{1, []int{heaviest - 1, heaviest}, []int{0, 1}},
		{1, []int{heaviest, heaviest - 1}, []int{1, 0}},
		{-1, []int{heaviest - 1, heaviest}, []int{0, -1}},
		{1, []int{heaviest, heaviest}, []int{1, 0}},
		{1, copies(api.MaxShares, heaviest), append([]int{1}, copies(api.MaxShares-1, 0)...)},
		{most - 1, copies(api.MaxShares, 1), append(copies(api.MaxShares-1, most>>8), most>>8-1)},
	} {
		check(t, told(share.Split(x.total, x.weights)), answer{x.want, api.OK}, "Split", x.total, x.weights)
	}
}

// P3.1: what may not be
func TestSplitRefused(t *testing.T) {
	refused := answer{nil, api.ErrArg}
	for _, total := range notAmounts {
		check(t, told(share.Split(total, []int{1, 2})), refused, "Split", total)
	}
	for _, weights := range [][]int{
		nil,
		{},
		{0},
		{0, 0, 0},
		copies(api.MaxShares, 0),
		copies(api.MaxShares+1, 1),
		append([]int{1}, copies(api.MaxShares, 0)...),
		{-1},
		{1, -1},
		{-1, 2},
		{2, 3, -1},
		{heaviest + 1},
		{1, heaviest + 1},
		{math.MaxInt, 1},
		{math.MaxInt, math.MaxInt, 2}, // 0 in 64 bits
		{math.MinInt, 1},
		{math.MinInt, math.MinInt},
	} {
		check(t, told(share.Split(5, weights)), refused, "Split", weights)
		check(t, told(share.Split(0, weights)), refused, "Split", weights)
	}
}

// P3.1
func TestSplitOfSmall(t *testing.T) {
	for total := -25; total <= 25; total++ {
		for i := range 6 * 6 * 6 * 6 {
			weights := []int{i % 6, i / 6 % 6, i / 36 % 6, i / 216}
			check(t, told(share.Split(total, weights)), split(total, weights), "Split", total, weights)
		}
	}
}

// chance tells numbers by chance, always the same ones.
type chance struct{ r *rand.Rand }

func newChance() chance { return chance{rand.New(rand.NewSource(3))} }

// size tells a number of at most so many bits.
func (c chance) size(bits int) int { return c.r.Intn(1 << (1 + c.r.Intn(bits))) }

// amount tells one of any size.
func (c chance) amount(bits int) int {
	if c.r.Intn(2) == 0 {
		return -c.size(bits)
	}
	return c.size(bits)
}

// list tells some numbers, of which some are alike.
func (c chance) list(next func() int) []int {
	l := make([]int, 1+c.r.Intn(20))
	if c.r.Intn(50) == 0 {
		l = make([]int, api.MaxShares)
	}
	for i := range l {
		l[i] = next()
		if i > 0 && c.r.Intn(4) == 0 {
			l[i] = l[c.r.Intn(i)]
		}
	}
	return l
}

// weights tells some that an amount can be parted by.
func (c chance) weights() []int {
	bits := 1 + c.r.Intn(40)
	l := c.list(func() int { return c.size(bits) })
	l[c.r.Intn(len(l))] = []int{1, heaviest, heaviest - 1}[c.r.Intn(3)]
	return l
}

// total tells an amount, at times the greatest.
func (c chance) total() int {
	switch c.r.Intn(20) {
	case 0:
		return most - c.r.Intn(3)
	case 1:
		return c.r.Intn(3) - most
	}
	return c.amount(62)
}

// P3.1
func TestSplitAnywhere(t *testing.T) {
	c := newChance()
	for range 20000 {
		total, weights := c.total(), c.weights()
		check(t, told(share.Split(total, weights)), split(total, weights), "Split", total, weights)
	}
}

// P3.1, P3.3: rule 4 of all layers
func TestListsAreLeft(t *testing.T) {
	c := newChance()
	for range 2000 {
		room := append(c.weights(), 7, 8, 9)
		was := slices.Clone(room)
		l := room[:len(room)-3]
		for _, got := range [][]int{first(share.Split(c.total(), l)), first(share.Fix(c.amount(50), l))} {
			if !slices.Equal(room, was) {
				t.Fatal("changed", was, "to", room)
			}
			for i := range got {
				got[i] = -1
			}
			if !slices.Equal(room, was) {
				t.Fatal("shared", was)
			}
		}
	}
}

func first(l []int, _ api.Errno) []int { return l }

// P3.2
func TestEvenTold(t *testing.T) {
	for _, x := range []struct {
		total, n int
		want     []int
	}{
		{100, 3, []int{34, 33, 33}},
		{-100, 3, []int{-34, -33, -33}},
		{2, 4, []int{1, 1, 0, 0}},
		{0, 2, []int{0, 0}},
		{most, 1, []int{most}},
		{-most, 2, []int{-most / 2, -most / 2}},
		{1, api.MaxShares, append([]int{1}, copies(api.MaxShares-1, 0)...)},
	} {
		check(t, told(share.Even(x.total, x.n)), answer{x.want, api.OK}, "Even", x.total, x.n)
	}
	for _, n := range []int{0, -1, api.MaxShares + 1, math.MaxInt, math.MinInt} {
		check(t, told(share.Even(5, n)), answer{nil, api.ErrArg}, "Even", n)
	}
	for _, total := range notAmounts {
		check(t, told(share.Even(total, 3)), answer{nil, api.ErrArg}, "Even", total)
	}
}

// P3.2
func TestEvenIsSplit(t *testing.T) {
	c := newChance()
	for n := 1; n <= api.MaxShares; n++ {
		for range 10 {
			total := c.total()
			check(t, told(share.Even(total, n)), split(total, copies(n, 1)), "Even", total, n)
		}
	}
}

// P3.3
func TestFixTold(t *testing.T) {
	for _, x := range []struct {
		total int
		l     []int
		want  answer
	}{
		{10, []int{3, 3, 3}, answer{[]int{4, 3, 3}, api.OK}},
		{8, []int{3, 3, 3}, answer{[]int{2, 3, 3}, api.OK}},
		{9, []int{3, 3, 3}, answer{[]int{3, 3, 3}, api.OK}},
		{-10, []int{-3, -3, -3}, answer{[]int{-4, -3, -3}, api.OK}},
		{10, []int{0, 0, 0}, answer{[]int{4, 3, 3}, api.OK}},
		{-10, []int{0, 0, 0}, answer{[]int{-4, -3, -3}, api.OK}},
		{0, []int{0}, answer{[]int{0}, api.OK}},
		{5, []int{0, 2}, answer{[]int{0, 5}, api.OK}},
		// Their sum is 0, but they are not: 3 more, by 4 and 4.
		{3, []int{-4, 4}, answer{[]int{-2, 5}, api.OK}},
		{-3, []int{-4, 4}, answer{[]int{-6, 3}, api.OK}},
		// 4 more, by 1 and 3, whatever their signs.
		{6, []int{-1, 3}, answer{[]int{0, 6}, api.OK}},
		{-2, []int{1, -3}, answer{[]int{1, -3}, api.OK}},
		{-6, []int{1, -3}, answer{[]int{0, -6}, api.OK}},
		{most, []int{heaviest}, answer{[]int{most}, api.OK}},
		{most, []int{0, 0}, answer{[]int{most / 2, most / 2}, api.OK}},
		{-most, []int{-heaviest}, answer{[]int{-most}, api.OK}},
		{most - 1, []int{-1}, answer{[]int{most - 1}, api.OK}},
		{-most + 1, []int{1}, answer{[]int{-most + 1}, api.OK}},
		{most, []int{heaviest, -heaviest}, answer{[]int{heaviest + most/2, most/2 - heaviest}, api.OK}},
		{5, copies(api.MaxShares, 0), answer{append(copies(5, 1), copies(api.MaxShares-5, 0)...), api.OK}},
		// What is lacking is no amount.
		{most, []int{-1}, answer{nil, api.ErrOver}},
		{-most, []int{1}, answer{nil, api.ErrOver}},
		{most, []int{heaviest, -heaviest, -1}, answer{nil, api.ErrOver}},
		{-most, []int{-heaviest, heaviest, 1}, answer{nil, api.ErrOver}},
		{most, copies(api.MaxShares, -heaviest), answer{nil, api.ErrOver}},
	} {
		check(t, told(share.Fix(x.total, x.l)), x.want, "Fix", x.total, x.l)
	}
}

// P3.3: what may not be, also where a sum would be none
func TestFixRefused(t *testing.T) {
	refused := answer{nil, api.ErrArg}
	for _, total := range notAmounts {
		check(t, told(share.Fix(total, []int{1, 2})), refused, "Fix", total)
		check(t, told(share.Fix(total, []int{0})), refused, "Fix", total)
	}
	for _, l := range [][]int{
		nil,
		{},
		copies(api.MaxShares+1, 0),
		copies(api.MaxShares+1, 1),
		copies(api.MaxShares+1, -heaviest),
		{heaviest + 1},
		{-heaviest - 1},
		{-1, heaviest + 1},
		{-heaviest - 1, 0},
		{most},
		{most, -most},
		{most + 1},
		{math.MinInt},
		{0, math.MinInt},
		{-1, math.MinInt, 1},
		{math.MaxInt, 1},
		{math.MinInt, math.MinInt},
	} {
		for _, total := range []int{0, 5, most, -most} {
			check(t, told(share.Fix(total, l)), refused, "Fix", total, l)
		}
	}
}

// P3.3
func TestFixOfSmall(t *testing.T) {
	for total := -12; total <= 12; total++ {
		for i := range 7 * 7 * 7 {
			l := []int{i%7 - 3, i/7%7 - 3, i/49 - 3}
			check(t, told(share.Fix(total, l)), fix(total, l), "Fix", total, l)
		}
	}
}

// P3.3
func TestFixAnywhere(t *testing.T) {
	c := newChance()
	seen := map[api.Errno]int{}
	for range 20000 {
		bits := 1 + c.r.Intn(41)
		total, l := c.total(), c.list(func() int { return c.amount(bits) })
		want := fix(total, l)
		seen[want.e]++
		check(t, told(share.Fix(total, l)), want, "Fix", total, l)
	}
	if seen[api.OK] == 0 || seen[api.ErrOver] == 0 || seen[api.ErrArg] == 0 {
		t.Error("not all was seen:", seen)
	}
}

// P3.4
func TestWhole(t *testing.T) {
	c := newChance()
	for range 5000 {
		total, weights := c.total(), c.weights()
		for _, got := range []answer{told(share.Split(total, weights)), told(share.Even(total, len(weights))), told(share.Fix(total, weights))} {
			if got.e == api.OK && sum(got.l).Cmp(number(total)) != 0 {
				t.Error("not whole:", total, weights, got.l)
			}
		}
	}
}

// P3.5
func TestNear(t *testing.T) {
	c := newChance()
	for range 5000 {
		total, weights := c.total(), c.weights()
		l, _ := share.Split(total, weights)
		all := sum(weights)
		for i, n := range l {
			away := new(big.Int).Mul(number(n), all)
			away.Sub(away, new(big.Int).Mul(number(total), number(weights[i])))
			if away.CmpAbs(all) >= 0 {
				t.Error("not near:", total, weights, i, n)
			}
		}
	}
}

// P3.1 to P3.3: the same again, whatever was told between
func TestNothingIsKept(t *testing.T) {
	c := newChance()
	for range 200 {
		total, weights := c.total(), c.weights()
		was := told(share.Split(total, weights))
		share.Split(c.total(), c.weights())
		share.Fix(c.total(), c.weights())
		check(t, told(share.Split(total, weights)), was, "Split", total, weights)
	}
}
