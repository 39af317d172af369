package invoice_test

import (
	"math"
	"math/big"
	"math/rand"
	"slices"
	"testing"

	"octroi/api"
	"octroi/invoice"
	"octroi/tax"
)

const (
	most     = api.MaxMoney
	heaviest = api.MaxWeight
)

type (
	item = invoice.Item
	part = invoice.Part
	sum  = invoice.Sum
)

var (
	either    = []bool{false, true}
	noAmounts = []int{-1, -most, most + 1, -most - 1, math.MinInt, math.MaxInt}
	noWeights = []int{-1, -heaviest, heaviest + 1, most, math.MinInt, math.MaxInt}
	noRates   = []int{-1, 10001, -10000, math.MinInt, math.MaxInt, 1 << 32, 1<<32 + 1900}
)

// net and gross tell items.
func net(amount, weight, bp int) item { return item{Amount: amount, Weight: weight, Bp: bp} }

func gross(amount, weight, bp int) item {
	return item{Amount: amount, Weight: weight, Gross: true, Bp: bp}
}

func number(n int) *big.Int { return big.NewInt(int64(n)) }

// nearest tells a · b / c in whole numbers without a bound, rounded half away from 0; nothing of it is below 0.
func nearest(a *big.Int, b, c int) *big.Int {
	p := new(big.Int).Mul(a, number(2*b))
	return p.Add(p, number(c)).Div(p, number(2*c))
}

// mayBe tells whether items may be.
func mayBe(l []item) bool {
	for _, x := range l {
		if x.Amount < 0 || x.Amount > 1<<62 || x.Weight < 0 || x.Weight > 1<<40 || x.Bp < 0 || x.Bp > 10000 {
			return false
		}
	}
	return 0 < len(l) && len(l) <= 64
}

// firsts tells the places of the items of which none ahead has the same Gross and Bp.
func firsts(l []item) []int {
	var told []int
	for i, x := range l {
		if !slices.ContainsFunc(l[:i], func(y item) bool { return y.Gross == x.Gross && y.Bp == x.Bp }) {
			told = append(told, i)
		}
	}
	return told
}

// groupOf tells the places of the items that have the same Gross and Bp as an item.
func groupOf(l []item, x item) []int {
	var told []int
	for i, y := range l {
		if y.Gross == x.Gross && y.Bp == x.Bp {
			told = append(told, i)
		}
	}
	return told
}

// modelSums is Sums, word for word as the document says it.
func modelSums(l []item) ([]sum, api.Errno) {
	if !mayBe(l) {
		return nil, api.ErrArg
	}
	var told []sum
	for _, first := range firsts(l) {
		x, all := l[first], new(big.Int)
		for _, i := range groupOf(l, x) {
			all.Add(all, number(l[i].Amount))
		}
		bound := number(1 << 62)
		if all.Cmp(bound) > 0 {
			return nil, api.ErrOver
		}
		if x.Gross {
			inside := nearest(all, x.Bp, 10000+x.Bp)
			told = append(told, sum{true, x.Bp, int(all.Int64() - inside.Int64()), int(inside.Int64())})
			continue
		}
		above := nearest(all, x.Bp, 10000)
		if new(big.Int).Add(all, above).Cmp(bound) > 0 {
			return nil, api.ErrOver
		}
		told = append(told, sum{false, x.Bp, int(all.Int64()), int(above.Int64())})
	}
	return told, api.OK
}

// modelShares parts a tax by weights: of each the whole part, then one unit each, from the greatest remainder on.
func modelShares(total int, weights []int) []int {
	all := new(big.Int)
	for _, w := range weights {
		all.Add(all, number(w))
	}
	told, rests, left := make([]int, len(weights)), make([]*big.Int, len(weights)), total
	for i, w := range weights {
		whole, rest := new(big.Int).DivMod(new(big.Int).Mul(number(total), number(w)), all, new(big.Int))
		told[i], rests[i] = int(whole.Int64()), rest
		left -= told[i]
	}
	for range left {
		best := 0
		for i := range rests {
			if rests[i].Cmp(rests[best]) > 0 {
				best = i
			}
		}
		told[best]++
		rests[best] = number(-1)
	}
	return told
}

// model is Of, word for word as the document says it.
func model(l []item) ([]part, api.Errno) {
	sums, e := modelSums(l)
	if e != api.OK {
		return nil, e
	}
	told := make([]part, len(l))
	for j, first := range firsts(l) {
		places := groupOf(l, l[first])
		var weights []int
		for _, i := range places {
			weights = append(weights, l[i].Weight)
		}
		if slices.Max(weights) == 0 {
			weights = slices.Repeat([]int{1}, len(places))
		}
		for k, t := range modelShares(sums[j].Tax, weights) {
			i := places[k]
			told[i] = part{l[i].Amount, t}
			if l[i].Gross {
				told[i].Net -= t
			}
		}
	}
	return told, api.OK
}

// checkOf holds Of to these parts, or to that error.
func checkOf(t *testing.T, l []item, want []part, wantE api.Errno) {
	t.Helper()
	if got, e := invoice.Of(l); e != wantE || !slices.Equal(got, want) {
		t.Fatalf("Of %v: %v %d, not %v %d", l, got, int(e), want, int(wantE))
	}
}

// checkSums holds Sums to these, or to that error.
func checkSums(t *testing.T, l []item, want []sum, wantE api.Errno) {
	t.Helper()
	if got, e := invoice.Sums(l); e != wantE || !slices.Equal(got, want) {
		t.Fatalf("Sums %v: %v %d, not %v %d", l, got, int(e), want, int(wantE))
	}
}

// checkRefused holds both to an error.
func checkRefused(t *testing.T, l []item, want api.Errno) {
	t.Helper()
	checkOf(t, l, nil, want)
	checkSums(t, l, nil, want)
}

// checkIs holds both to the models.
func checkIs(t *testing.T, l []item) {
	t.Helper()
	parts, e := model(l)
	checkOf(t, l, parts, e)
	sums, e := modelSums(l)
	checkSums(t, l, sums, e)
}

// P22.1, P22.2
func TestTold(t *testing.T) {
	for _, x := range []struct {
		l     []item
		sums  []sum
		parts []part
	}{
		{ // the document's
			[]item{net(33, 33, 1000), net(33, 33, 1000), net(33, 33, 1000)},
			[]sum{{false, 1000, 99, 10}},
			[]part{{33, 4}, {33, 3}, {33, 3}},
		},
		{ // inside 100 are 9.09
			[]item{gross(33, 1, 1000), gross(33, 1, 1000), gross(34, 1, 1000)},
			[]sum{{true, 1000, 91, 9}},
			[]part{{30, 3}, {30, 3}, {31, 3}},
		},
		{ // by weights, not by amounts
			[]item{net(1000, 1, 1900), net(0, 9, 1900)},
			[]sum{{false, 1900, 1000, 190}},
			[]part{{1000, 19}, {0, 171}},
		},
		{ // a tax above its item
			[]item{gross(1190, 1, 1900), gross(0, 9, 1900)},
			[]sum{{true, 1900, 1000, 190}},
			[]part{{1171, 19}, {-171, 171}},
		},
		{ // the greatest remainder: 2.5 of 1 and 2 are 0.83 and 1.67
			[]item{net(10, 1, 1000), net(15, 2, 1000)},
			[]sum{{false, 1000, 25, 3}},
			[]part{{10, 1}, {15, 2}},
		},
		{ // a weight of 0 beside others has nothing
			[]item{net(500, 0, 2000), net(500, 5, 2000)},
			[]sum{{false, 2000, 1000, 200}},
			[]part{{500, 0}, {500, 200}},
		},
		{ // all weights 0: evenly, the first one first
			[]item{net(100, 0, 2000), net(900, 0, 2000), net(5, 0, 2000)},
			[]sum{{false, 2000, 1005, 201}},
			[]part{{100, 67}, {900, 67}, {5, 67}},
		},
		{
			[]item{gross(9, 0, 10000), gross(2, 0, 10000)},
			[]sum{{true, 10000, 5, 6}},
			[]part{{6, 3}, {-1, 3}},
		},
		{ // groups, in the order of their first items
			[]item{net(100, 1, 1900), gross(107, 1, 700), net(50, 1, 700), net(100, 1, 1900), gross(119, 1, 1900), gross(107, 1, 700), net(50, 2, 700)},
			[]sum{{false, 1900, 200, 38}, {true, 700, 200, 14}, {false, 700, 100, 7}, {true, 1900, 100, 19}},
			[]part{{100, 19}, {100, 7}, {50, 2}, {100, 19}, {100, 19}, {100, 7}, {50, 5}},
		},
		{ // all weights 0 in one group alone
			[]item{net(10, 0, 1000), net(5, 0, 2000), net(10, 0, 1000), net(5, 4, 2000)},
			[]sum{{false, 1000, 20, 2}, {false, 2000, 10, 2}},
			[]part{{10, 1}, {5, 0}, {10, 1}, {5, 2}},
		},
		{ // no tax
			[]item{net(7, 3, 0), gross(7, 3, 0)},
			[]sum{{false, 0, 7, 0}, {true, 0, 7, 0}},
			[]part{{7, 0}, {7, 0}},
		},
		{
			[]item{net(0, 0, 0)},
			[]sum{{false, 0, 0, 0}},
			[]part{{0, 0}},
		},
		{
			[]item{gross(most, heaviest, 10000), net(most/2, heaviest, 10000), net(most, 0, 0)},
			[]sum{{true, 10000, most / 2, most / 2}, {false, 10000, most / 2, most / 2}, {false, 0, most, 0}},
			[]part{{most / 2, most / 2}, {most / 2, most / 2}, {most, 0}},
		},
	} {
		checkSums(t, x.l, x.sums, api.OK)
		checkOf(t, x.l, x.parts, api.OK)
		checkIs(t, x.l)
	}
}

// many tells n items of several groups.
func many(n int) []item {
	var l []item
	for i := range n {
		l = append(l, item{10 * i, i % 5, i%2 == 0, 700 * (i % 3)})
	}
	return l
}

// P22.1, P22.2
func TestHowMany(t *testing.T) {
	checkRefused(t, nil, api.ErrArg)
	checkRefused(t, []item{}, api.ErrArg)
	for n := 1; n <= api.MaxLines; n++ {
		checkIs(t, many(n))
		if parts, e := invoice.Of(many(n)); len(parts) != n || e != api.OK {
			t.Error(n, len(parts), int(e))
		}
	}
	for _, n := range []int{api.MaxLines + 1, api.MaxLines + 2, 255, api.MaxShares, api.MaxShares + 1, 5000} {
		checkRefused(t, many(n), api.ErrArg)
		checkRefused(t, slices.Repeat([]item{net(1, 1, 1900)}, n), api.ErrArg)
		checkRefused(t, slices.Repeat([]item{net(most, 1, 1900)}, n), api.ErrArg)
	}
	apart := make([]item, api.MaxLines) // each a group by itself
	for i := range apart {
		apart[i] = net(1000, 0, i)
	}
	checkIs(t, apart)
}

// P22.1, P22.2: an item that may not be, wherever it stands, ahead of what is over
func TestItemsThatMayNotBe(t *testing.T) {
	var wrong []item
	for _, g := range either {
		for _, a := range noAmounts {
			wrong = append(wrong, item{a, 1, g, 1900}, item{a, 0, g, 0})
		}
		for _, w := range noWeights {
			wrong = append(wrong, item{1000, w, g, 1900}, item{0, w, g, 0})
		}
		for _, bp := range noRates {
			wrong = append(wrong, item{1000, 1, g, bp}, item{0, 0, g, bp})
		}
	}
	for _, x := range wrong {
		checkRefused(t, []item{x}, api.ErrArg)
		for _, rest := range [][]item{many(5), {net(most, 1, 0), net(most, 1, 0)}, {net(most, 1, 1)}} {
			for at := range len(rest) + 1 {
				checkRefused(t, slices.Insert(slices.Clone(rest), at, x), api.ErrArg)
			}
		}
	}
}

// P22.1, P22.2: the greatest that may be, and what is just beyond
func TestEdgesOfItems(t *testing.T) {
	for _, l := range [][]item{
		{net(most, heaviest, 0)},
		{gross(most, heaviest, 0)},
		{gross(most, 0, 10000)},
		{net(0, heaviest, 10000), net(0, heaviest, 10000)},
		{net(1, heaviest, 10000), net(0, heaviest-1, 10000), net(2, heaviest, 10000)},
		slices.Repeat([]item{net(most>>7, heaviest, 10000)}, api.MaxLines),
		slices.Repeat([]item{gross(most>>6, heaviest, 10000)}, api.MaxLines),
		append(slices.Repeat([]item{net(1, heaviest, 10000)}, api.MaxLines-1), net(1, 0, 10000)),
	} {
		checkIs(t, l)
		if _, e := invoice.Of(l); e != api.OK {
			t.Error(l, int(e))
		}
	}
}

// P22.1, P22.2
func TestOver(t *testing.T) {
	for _, l := range [][]item{
		{net(most, 1, 1)},
		{net(most, 1, 10000)},
		{net(most/2+1, 1, 10000)},
		{net(most/2, 1, 10000), net(1, 1, 10000)},
		{net(most, 1, 0), net(1, 1, 0)},
		{gross(most, 1, 0), gross(1, 1, 0)},
		{gross(most, 1, 1900), gross(most, 1, 1900)},
		{net(most, 1, 0), net(most, 1, 0), net(most, 1, 0), net(most, 1, 0)}, // 0 in 64 bits
		slices.Repeat([]item{gross(most, 1, 700)}, api.MaxLines),
		{net(5, 1, 700), gross(5, 1, 1900), net(most, 1, 1900)},
		{net(most, 1, 1900), net(5, 1, 700)},
		append(slices.Repeat([]item{net(most>>7, 1, 10000)}, api.MaxLines-1), net(most>>7+1, 1, 10000)),
	} {
		checkRefused(t, l, api.ErrOver)
		checkIs(t, l)
	}
	for _, l := range [][]item{ // groups that are over together alone
		{net(most, 1, 0), gross(most, 1, 0)},
		{gross(most, 1, 1), gross(most, 1, 2), gross(most, 1, 10000), gross(most, 1, 0)},
		{net(most, 1, 0), net(most/2, 1, 10000), net(most/4, 1, 9999)},
	} {
		checkIs(t, l)
		if _, e := invoice.Of(l); e != api.OK {
			t.Error(l, int(e))
		}
	}
}

// P22.1
func TestOrderOfGroups(t *testing.T) {
	c := rand.New(rand.NewSource(221))
	for range 300 {
		l := make([]item, 1+c.Intn(api.MaxLines))
		for i := range l {
			l[i] = item{c.Intn(1000), c.Intn(4), c.Intn(2) == 0, c.Intn(20)}
		}
		first := firsts(l)
		sums, e := invoice.Sums(l)
		if e != api.OK || len(sums) != len(first) {
			t.Fatal(l, len(sums), int(e))
		}
		for i, s := range sums {
			if x := l[first[i]]; s.Gross != x.Gross || s.Bp != x.Bp {
				t.Fatal(l, "group", i, "is", s)
			}
		}
	}
}

// chance tells items by chance, most of which may be.
func chance(c *rand.Rand) []item {
	l := make([]item, 1+c.Intn(1+c.Intn(api.MaxLines)))
	sizes, weights, rates := 62-c.Intn(1+c.Intn(62)), c.Intn(41), 1+c.Intn(5)
	for i := range l {
		l[i] = item{int(c.Int63() >> (62 - sizes)), int(c.Int63() & (1<<weights - 1)), c.Intn(2) == 0, 2500 * c.Intn(rates)}
		if l[i].Amount > most {
			l[i].Amount = most
		}
		if c.Intn(4) == 0 {
			l[i].Weight = 0
		}
	}
	switch at := c.Intn(len(l)); c.Intn(60) {
	case 0:
		l[at].Amount = noAmounts[c.Intn(len(noAmounts))]
	case 1:
		l[at].Weight = noWeights[c.Intn(len(noWeights))]
	case 2:
		l[at].Bp = noRates[c.Intn(len(noRates))]
	}
	return l
}

// P22.1, P22.2
func TestInvoicesAreTheModels(t *testing.T) {
	c := rand.New(rand.NewSource(22))
	var many [api.ErrCycle + 1]int
	for range 20000 {
		l := chance(c)
		checkIs(t, l)
		_, e := invoice.Sums(l)
		many[e]++
	}
	if many[api.OK] < 5000 || many[api.ErrOver] < 500 || many[api.ErrArg] < 500 {
		t.Error("told, over, wrong:", many[api.OK], many[api.ErrOver], many[api.ErrArg])
	}
}

// P22.3
func TestWhole(t *testing.T) {
	c := rand.New(rand.NewSource(223))
	for range 5000 {
		l := chance(c)
		sums, e := invoice.Sums(l)
		parts, again := invoice.Of(l)
		if e != again {
			t.Fatal(l, int(e), int(again))
		}
		for _, s := range sums {
			var n, g int
			for i, x := range l {
				if x.Gross == s.Gross && x.Bp == s.Bp {
					n, g = n+parts[i].Net, g+parts[i].Tax
				}
			}
			if n != s.Net || g != s.Tax {
				t.Fatal(l, n, g, "not", s)
			}
		}
	}
}

// P22.4
func TestAlone(t *testing.T) {
	c := rand.New(rand.NewSource(224))
	for range 3000 {
		l := chance(c)
		parts, e := invoice.Of(l)
		if e != api.OK {
			continue
		}
		for i, x := range l {
			if len(groupOf(l, x)) > 1 {
				continue
			}
			n, g, e := tax.Part(x.Amount, x.Gross, x.Bp)
			if parts[i] != (part{n, g}) || e != api.OK {
				t.Fatal(l, "item", i, parts[i], "not", n, g, int(e))
			}
		}
	}
	for bp := range 10001 {
		for _, g := range either {
			for _, weight := range []int{0, 1, 77, heaviest} {
				n, inside, e := tax.Part(999, g, bp)
				checkOf(t, []item{{999, weight, g, bp}}, []part{{n, inside}}, e)
				checkSums(t, []item{{999, weight, g, bp}}, []sum{{g, bp, n, inside}}, e)
			}
		}
	}
}

// P22.1, P22.2: what is handed in stays as it is, its spare room too; what is handed out is the caller's
func TestListsStayAsTheyAre(t *testing.T) {
	room := many(api.MaxLines)
	room[21], room[22] = net(-1, 1, 1900), net(most, 1, 1900) // behind the list: neither wrong nor over
	was := slices.Clone(room)
	l := room[:20]
	parts, e := invoice.Of(l)
	if e != api.OK {
		t.Fatal(int(e))
	}
	sums, _ := invoice.Sums(l)
	clear(parts)
	clear(sums)
	if !slices.Equal(room, was) {
		t.Error("changed:", room)
	}
	checkIs(t, l)
}
