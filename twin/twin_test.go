package twin_test

import (
	"math"
	"math/big"
	"math/rand"
	"slices"
	"testing"

	"octroi/api"
	"octroi/twin"
)

const most = api.MaxMoney

type post = api.Post

var (
	either     = []bool{false, true}
	amounts    = []int{0, 1, -1, 2, 50, -99, 190, 1000, -1190, 1 << 32, -1 << 40, most/2 - 1, most / 2, most/2 + 1, -most / 2, -most/2 - 1, most - 1, 1 - most, most, -most}
	noAmounts  = []int{most + 1, -most - 1, math.MaxInt, math.MinInt, math.MinInt + 1}
	noPercents = []int{-1, 101, -100, 1000, math.MinInt, math.MaxInt, 1 << 32, 1<<32 + 50, most, -most}
	noLines    = []int{0, -1, api.Adjusted, 16, math.MinInt, math.MaxInt, 1 << 32, 1<<32 + api.Home, -1<<32 + api.Input}
)

func number(n int) *big.Int { return big.NewInt(int64(n)) }

func isAmount(l ...int) bool {
	return !slices.ContainsFunc(l, func(n int) bool { return number(n).CmpAbs(number(1<<62)) > 0 })
}

// kinds tells all treatments, those that are none too.
func kinds() []int {
	told := slices.Clone(noLines)
	for k := api.Home; k <= api.Import; k++ {
		told = append(told, k)
	}
	return told
}

// modelDeducts and modelDue are the document's words.
func modelDeducts(k int) bool {
	return slices.Contains([]int{api.Input, api.Acquisition, api.Received, api.Import}, k)
}

func modelDue(r api.Row) bool {
	switch r.Treat {
	case api.Distance, api.Input, api.Acquisition, api.Received, api.Import:
		return true
	case api.Home, api.Margin, api.Below:
		return r.Sale
	}
	return false
}

// share tells hundredths of an amount in whole numbers without a bound, rounded half away from 0.
func share(a, percent int) int {
	p := new(big.Int).Mul(number(a), number(percent))
	sign := number(p.Sign())
	p.Abs(p).Lsh(p, 1).Add(p, number(100)).Div(p, number(200))
	return int(p.Mul(p, sign).Int64())
}

// modelMake is Make, word for word as the document says it.
func modelMake(in twin.In) (api.Row, api.Errno) {
	r := in.Row
	if !isAmount(r.Base, r.Tax) || in.Percent < 0 || in.Percent > 100 || r.Treat < api.Home || r.Treat > api.Import {
		return api.Row{}, api.ErrArg
	}
	if !modelDue(r) {
		r.Rate, r.Tax, r.State = 0, 0, ""
	}
	r.Deduct = 0
	if modelDeducts(r.Treat) {
		r.Deduct = r.Tax
		if r.Mixed {
			r.Deduct = share(r.Tax, in.Percent)
		}
	}
	if in.Credit {
		r.Base, r.Tax, r.Deduct = -r.Base, -r.Tax, -r.Deduct
	}
	return r, api.OK
}

// leg is a posting, in whole numbers without a bound.
type leg struct {
	account int
	state   string
	amount  *big.Int
}

// legs tells a row's postings, word for word as the document says them, those of 0 too.
func legs(r api.Row) []leg {
	base, tax, deduct := number(r.Base), number(r.Tax), number(r.Deduct)
	both := new(big.Int).Add(base, tax)
	rest := new(big.Int).Sub(both, deduct)
	turned := func(n *big.Int) *big.Int { return new(big.Int).Neg(n) }
	switch {
	case r.Sale && r.Treat == api.Distance:
		return []leg{{api.AccParty, "", both}, {api.AccTurn, "", turned(base)}, {api.AccOss, r.State, turned(tax)}}
	case r.Sale:
		return []leg{{api.AccParty, "", both}, {api.AccTurn, "", turned(base)}, {api.AccOut, "", turned(tax)}}
	case r.Treat == api.Acquisition, r.Treat == api.Received, r.Treat == api.Import:
		return []leg{{api.AccParty, "", turned(base)}, {api.AccTurn, "", rest}, {api.AccIn, "", deduct}, {api.AccOut, "", turned(tax)}}
	case r.Treat == api.Adjusted:
		return []leg{{api.AccTurn, "", turned(deduct)}, {api.AccIn, "", deduct}}
	}
	return []leg{{api.AccParty, "", turned(both)}, {api.AccTurn, "", rest}, {api.AccIn, "", deduct}}
}

// modelPosts is Posts.
func modelPosts(r api.Row) ([]post, api.Errno) {
	if !isAmount(r.Base, r.Tax, r.Deduct) {
		return nil, api.ErrArg
	}
	var told []post
	for _, x := range legs(r) {
		if x.amount.CmpAbs(number(1<<62)) > 0 {
			return nil, api.ErrOver
		}
		if x.amount.Sign() != 0 {
			told = append(told, post{Account: x.account, State: x.state, Amount: int(x.amount.Int64())})
		}
	}
	return told, api.OK
}

// modelSum is money's Sum of some amounts.
func modelSum(l []int) (int, api.Errno) {
	if !isAmount(l...) {
		return 0, api.ErrArg
	}
	all := new(big.Int)
	for _, a := range l {
		all.Add(all, number(a))
	}
	if all.CmpAbs(number(1<<62)) > 0 {
		return 0, api.ErrOver
	}
	return int(all.Int64()), api.OK
}

// full tells a row that has something in each field beside those that are handed in.
func full(sale bool, kind, base, tax, deduct int, mixed bool) api.Row {
	return api.Row{
		Period: api.Period{Kind: api.Month, Year: 2024, Index: 3},
		Origin: api.Period{Kind: api.Quarter, Year: 2023, Index: 2},
		Doc:    "A-1", Sale: sale, Supply: api.Service, Treat: kind, Rate: 1900, State: "DE", Party: "FR12345678901",
		Base: base, Tax: tax, Deduct: deduct, Mixed: mixed,
	}
}

func checkMake(t *testing.T, in twin.In, want api.Row, e api.Errno) {
	t.Helper()
	if r, f := twin.Make(in); r != want || f != e {
		t.Fatalf("Make of %+v: %+v %d, not %+v %d", in, r, int(f), want, int(e))
	}
}

func checkPosts(t *testing.T, r api.Row, want []post, e api.Errno) {
	t.Helper()
	if l, f := twin.Posts(r); !slices.Equal(l, want) || f != e {
		t.Fatalf("Posts of %+v: %+v %d, not %+v %d", r, l, int(f), want, int(e))
	}
}

// checkSum holds Sum, or Of an account, to a number and an error.
func checkSum(t *testing.T, n int, f api.Errno, want int, e api.Errno, what ...any) {
	t.Helper()
	if n != want || f != e {
		t.Fatalf("%v: %d %d, not %d %d", what, n, int(f), want, int(e))
	}
}

// P24.1: tax is due
func TestDue(t *testing.T) {
	for _, x := range []struct {
		kind         int
		sold, bought bool
	}{
		{api.Home, true, false},
		{api.Freed, false, false},
		{api.Margin, true, false},
		{api.Intra, false, false},
		{api.Export, false, false},
		{api.Reverse, false, false},
		{api.Outside, false, false},
		{api.Distance, true, true},
		{api.Below, true, false},
		{api.Abroad, false, false},
		{api.Input, true, true},
		{api.Acquisition, true, true},
		{api.Received, true, true},
		{api.Import, true, true},
		{api.Adjusted, false, false},
		{0, false, false},
		{-1, false, false},
		{16, false, false},
		{math.MinInt, false, false},
		{math.MaxInt, false, false},
		{1<<32 + api.Home, false, false},
		{1<<32 + api.Input, false, false},
	} {
		for _, r := range []api.Row{{Treat: x.kind}, full(false, x.kind, 1, 2, 3, true), full(false, x.kind, most+1, most+1, most+1, false)} {
			if twin.Due(r) != x.bought {
				t.Error("bought:", x.kind, !x.bought)
			}
			if r.Sale = true; twin.Due(r) != x.sold {
				t.Error("sold:", x.kind, !x.sold)
			}
		}
	}
}

// P24.1: what is due stays, with what is deducted
func TestMakeOfDue(t *testing.T) {
	for _, x := range []struct {
		sale               bool
		kind, tax, percent int
		mixed              bool
		deduct             int
	}{
		{true, api.Home, 190, 50, false, 0},
		{true, api.Home, 190, 50, true, 0},
		{true, api.Margin, 190, 100, true, 0},
		{true, api.Below, 190, 100, false, 0},
		{true, api.Distance, 190, 100, false, 0},
		{true, api.Distance, 190, 100, true, 0},
		{false, api.Distance, 190, 100, false, 0},
		{false, api.Input, 190, 0, false, 190},
		{false, api.Input, 190, 33, false, 190},
		{false, api.Input, 190, 33, true, 63}, // 62.7
		{false, api.Input, 190, 0, true, 0},
		{false, api.Input, 190, 100, true, 190},
		{false, api.Input, -190, 33, true, -63},
		{false, api.Input, 1, 50, true, 1}, // a half, away from 0
		{false, api.Input, -1, 50, true, -1},
		{false, api.Input, 1, 49, true, 0},
		{false, api.Acquisition, 200, 10, true, 20},
		{false, api.Acquisition, 200, 10, false, 200},
		{false, api.Received, 200, 10, true, 20},
		{false, api.Received, 200, 10, false, 200},
		{false, api.Import, 200, 10, true, 20},
		{false, api.Import, 200, 10, false, 200},
		{true, api.Input, 200, 10, true, 20},
		{true, api.Import, 200, 10, false, 200},
		{false, api.Import, most, 50, true, most / 2},
		{false, api.Import, -most, 100, false, -most},
	} {
		for _, base := range amounts {
			in := twin.In{Row: full(x.sale, x.kind, base, x.tax, 77, x.mixed), Percent: x.percent}
			checkMake(t, in, full(x.sale, x.kind, base, x.tax, x.deduct, x.mixed), api.OK)
			in.Credit = true
			checkMake(t, in, full(x.sale, x.kind, -base, -x.tax, -x.deduct, x.mixed), api.OK)
		}
	}
}

// P24.1: of what is not due rate, tax and state are none, and nothing is deducted
func TestMakeOfNotDue(t *testing.T) {
	bare := func(sale bool, kind, base int, mixed bool) api.Row {
		r := full(sale, kind, base, 0, 0, mixed)
		r.Rate, r.State = 0, ""
		return r
	}
	sold := []int{api.Freed, api.Intra, api.Export, api.Reverse, api.Outside, api.Abroad}
	bought := append([]int{api.Home, api.Margin, api.Below}, sold...)
	for _, sale := range either {
		list := bought
		if sale {
			list = sold
		}
		for _, kind := range list {
			for _, mixed := range either {
				for _, tax := range amounts {
					in := twin.In{Row: full(sale, kind, 1000, tax, 77, mixed), Percent: 50}
					checkMake(t, in, bare(sale, kind, 1000, mixed), api.OK)
					in.Credit = true
					checkMake(t, in, bare(sale, kind, -1000, mixed), api.OK)
				}
			}
		}
	}
}

// P24.1: what may not be, in each place, due or not
func TestMakeRefused(t *testing.T) {
	for _, sale := range either {
		for _, mixed := range either {
			for _, credit := range either {
				for _, kind := range kinds() {
					for _, wrong := range noAmounts {
						checkMake(t, twin.In{Row: full(sale, kind, wrong, 190, 0, mixed), Percent: 50, Credit: credit}, api.Row{}, api.ErrArg)
						checkMake(t, twin.In{Row: full(sale, kind, 1000, wrong, 0, mixed), Percent: 50, Credit: credit}, api.Row{}, api.ErrArg)
					}
					for _, percent := range noPercents {
						checkMake(t, twin.In{Row: full(sale, kind, 1000, 190, 0, mixed), Percent: percent, Credit: credit}, api.Row{}, api.ErrArg)
					}
				}
				for _, kind := range noLines {
					checkMake(t, twin.In{Row: full(sale, kind, 1000, 190, 0, mixed), Percent: 50, Credit: credit}, api.Row{}, api.ErrArg)
					checkMake(t, twin.In{Row: api.Row{Sale: sale, Treat: kind, Mixed: mixed}, Credit: credit}, api.Row{}, api.ErrArg)
				}
			}
		}
	}
	checkMake(t, twin.In{}, api.Row{}, api.ErrArg)
}

// P24.1: the Deduct that a row came with is nothing, not even if it is no amount
func TestMakeTakesNoDeduct(t *testing.T) {
	for _, deduct := range slices.Concat(amounts, noAmounts) {
		for _, credit := range either {
			sign := 1
			if credit {
				sign = -1
			}
			checkMake(t, twin.In{Row: full(true, api.Home, 1000, 190, deduct, false), Credit: credit}, full(true, api.Home, sign*1000, sign*190, 0, false), api.OK)
			checkMake(t, twin.In{Row: full(false, api.Input, 1000, 190, deduct, false), Credit: credit}, full(false, api.Input, sign*1000, sign*190, sign*190, false), api.OK)
		}
	}
}

// amountOf tells an amount of any size by chance; now and then a number that is none.
func amountOf(c *rand.Rand) int {
	switch c.Intn(60) {
	case 0:
		return noAmounts[c.Intn(len(noAmounts))]
	case 1, 2, 3, 4:
		return amounts[c.Intn(len(amounts))]
	}
	a := int(c.Int63()>>1) >> c.Intn(62)
	if c.Intn(2) == 0 {
		return -a
	}
	return a
}

// periodOf tells a period by chance, also one that is none.
func periodOf(c *rand.Rand) api.Period {
	return api.Period{Kind: c.Intn(5), Year: c.Intn(12000) - 1000, Index: c.Intn(20)}
}

// rowOf tells a row by chance.
func rowOf(c *rand.Rand) api.Row {
	words, all := []string{"", "DE", "FR", "a long one"}, kinds()
	return api.Row{
		Period: periodOf(c), Origin: periodOf(c), Doc: words[c.Intn(4)], Sale: c.Intn(2) == 0,
		Supply: c.Intn(9), Treat: all[c.Intn(len(all))], Rate: c.Intn(12000) - 1000, State: words[c.Intn(4)], Party: words[c.Intn(4)],
		Base: amountOf(c), Tax: amountOf(c), Deduct: amountOf(c), Mixed: c.Intn(2) == 0,
	}
}

// P24.1
func TestMakeIsTheModels(t *testing.T) {
	c := rand.New(rand.NewSource(241))
	refused := 0
	for range 60000 {
		in := twin.In{Row: rowOf(c), Percent: c.Intn(101), Credit: c.Intn(2) == 0}
		if c.Intn(20) == 0 {
			in.Percent = noPercents[c.Intn(len(noPercents))]
		}
		want, e := modelMake(in)
		checkMake(t, in, want, e)
		if e != api.OK {
			refused++
		}
	}
	if refused > 50000 {
		t.Error("too many were refused:", refused)
	}
}

// P24.1
func TestMakeOfEachPercent(t *testing.T) {
	for percent := -2; percent <= 102; percent++ {
		for _, tax := range amounts {
			for _, kind := range []int{api.Home, api.Input, api.Import} {
				in := twin.In{Row: full(false, kind, 1000, tax, 0, true), Percent: percent}
				want, e := modelMake(in)
				checkMake(t, in, want, e)
			}
		}
	}
}

// P24.1: Turn, of any row
func TestTurn(t *testing.T) {
	for _, sale := range either {
		for _, kind := range kinds() {
			for _, a := range amounts {
				for _, row := range [][3]int{{a, 190, 63}, {1000, a, 63}, {1000, 190, a}, {a, a, a}, {a, -a, 0}} {
					got, e := twin.Turn(full(sale, kind, row[0], row[1], row[2], !sale))
					if want := full(sale, kind, -row[0], -row[1], -row[2], !sale); got != want || e != api.OK {
						t.Fatal(row, got, int(e))
					}
				}
			}
			for _, wrong := range noAmounts {
				for _, row := range [][3]int{{wrong, 190, 63}, {1000, wrong, 63}, {1000, 190, wrong}, {wrong, wrong, wrong}, {wrong, most, -most}} {
					if got, e := twin.Turn(full(sale, kind, row[0], row[1], row[2], sale)); got != (api.Row{}) || e != api.ErrArg {
						t.Fatal(row, got, int(e))
					}
				}
			}
		}
	}
	if got, e := twin.Turn(api.Row{}); got != (api.Row{}) || e != api.OK {
		t.Error(got, int(e))
	}
}

// P24.2
func TestPostsTold(t *testing.T) {
	party, turn, out, in := api.AccParty, api.AccTurn, api.AccOut, api.AccIn
	on := func(account, amount int) post { return post{Account: account, Amount: amount} }
	for _, x := range []struct {
		sale              bool
		kind              int
		base, tax, deduct int
		want              []post
	}{
		{true, api.Home, 1000, 190, 0, []post{on(party, 1190), on(turn, -1000), on(out, -190)}},
		{true, api.Home, -1000, -190, 0, []post{on(party, -1190), on(turn, 1000), on(out, 190)}},
		{true, api.Margin, 500, 95, 0, []post{on(party, 595), on(turn, -500), on(out, -95)}},
		{true, api.Below, 1000, 190, 0, []post{on(party, 1190), on(turn, -1000), on(out, -190)}},
		{true, api.Intra, 1000, 0, 0, []post{on(party, 1000), on(turn, -1000)}},
		{true, api.Export, 1000, 5, 7, []post{on(party, 1005), on(turn, -1000), on(out, -5)}},
		{true, api.Distance, 1000, 200, 0, []post{on(party, 1200), on(turn, -1000), {Account: api.AccOss, State: "DE", Amount: -200}}},
		{true, api.Distance, -1000, -200, 0, []post{on(party, -1200), on(turn, 1000), {Account: api.AccOss, State: "DE", Amount: 200}}},
		{true, api.Distance, 1000, 0, 0, []post{on(party, 1000), on(turn, -1000)}},
		{true, api.Distance, 0, 200, 0, []post{on(party, 200), {Account: api.AccOss, State: "DE", Amount: -200}}},
		{true, api.Home, 0, 0, 0, nil},
		{true, api.Home, 0, 0, 63, nil},
		{true, api.Home, 5, -5, 0, []post{on(turn, -5), on(out, 5)}},
		{true, api.Adjusted, 1000, 190, 63, []post{on(party, 1190), on(turn, -1000), on(out, -190)}},
		{true, api.Import, 1000, 190, 63, []post{on(party, 1190), on(turn, -1000), on(out, -190)}},
		{false, api.Acquisition, 1000, 190, 63, []post{on(party, -1000), on(turn, 1127), on(in, 63), on(out, -190)}},
		{false, api.Acquisition, 1000, 190, 190, []post{on(party, -1000), on(turn, 1000), on(in, 190), on(out, -190)}},
		{false, api.Received, 1000, 190, 63, []post{on(party, -1000), on(turn, 1127), on(in, 63), on(out, -190)}},
		{false, api.Received, 1000, 190, 0, []post{on(party, -1000), on(turn, 1190), on(out, -190)}},
		{false, api.Import, 1000, 190, 63, []post{on(party, -1000), on(turn, 1127), on(in, 63), on(out, -190)}},
		{false, api.Import, -1000, -190, -63, []post{on(party, 1000), on(turn, -1127), on(in, -63), on(out, 190)}},
		{false, api.Import, 0, 190, 190, []post{on(in, 190), on(out, -190)}},
		{false, api.Import, 1000, 0, 0, []post{on(party, -1000), on(turn, 1000)}},
		{false, api.Import, 0, 0, 0, nil},
		{false, api.Adjusted, 0, 0, -16, []post{on(turn, 16), on(in, -16)}},
		{false, api.Adjusted, 1000, 190, 7, []post{on(turn, -7), on(in, 7)}},
		{false, api.Adjusted, 1000, 190, 0, nil},
		{false, api.Input, 1000, 190, 190, []post{on(party, -1190), on(turn, 1000), on(in, 190)}},
		{false, api.Input, 1000, 190, 63, []post{on(party, -1190), on(turn, 1127), on(in, 63)}},
		{false, api.Input, -1000, -190, -63, []post{on(party, 1190), on(turn, -1127), on(in, -63)}},
		{false, api.Input, 1000, 190, 0, []post{on(party, -1190), on(turn, 1190)}},
		{false, api.Input, 0, 190, 190, []post{on(party, -190), on(in, 190)}},
		{false, api.Freed, 1000, 0, 0, []post{on(party, -1000), on(turn, 1000)}},
		{false, api.Margin, 1000, 0, 0, []post{on(party, -1000), on(turn, 1000)}},
		{false, api.Abroad, 1000, 5, 2, []post{on(party, -1005), on(turn, 1003), on(in, 2)}},
		{false, api.Home, 1000, 190, 63, []post{on(party, -1190), on(turn, 1127), on(in, 63)}},
		{false, api.Distance, 1000, 190, 63, []post{on(party, -1190), on(turn, 1127), on(in, 63)}},
		{false, 0, 1000, 190, 63, []post{on(party, -1190), on(turn, 1127), on(in, 63)}},
		{false, 16, 1000, 190, 63, []post{on(party, -1190), on(turn, 1127), on(in, 63)}},
	} {
		for _, mixed := range either {
			checkPosts(t, full(x.sale, x.kind, x.base, x.tax, x.deduct, mixed), x.want, api.OK)
		}
	}
	checkPosts(t, api.Row{Sale: true, Treat: api.Distance, Base: 1, Tax: 1}, []post{on(party, 2), on(turn, -1), on(api.AccOss, -1)}, api.OK)
	checkPosts(t, api.Row{}, nil, api.OK)
}

// P24.2: what is no amount, ahead of what is over
func TestPostsRefused(t *testing.T) {
	for _, sale := range either {
		for _, kind := range kinds() {
			for _, wrong := range noAmounts {
				for _, a := range amounts {
					checkPosts(t, full(sale, kind, wrong, a, 0, false), nil, api.ErrArg)
					checkPosts(t, full(sale, kind, a, wrong, 0, false), nil, api.ErrArg)
					checkPosts(t, full(sale, kind, a, a, wrong, false), nil, api.ErrArg)
				}
			}
		}
	}
}

// P24.2: the greatest that is not over, and the one beyond it
func TestPostsOver(t *testing.T) {
	const none = 1 << 30 // no treatment
	for _, x := range []struct {
		sale              bool
		kind              int
		base, tax, deduct int
		e                 api.Errno
	}{
		{true, api.Home, most, 0, 0, api.OK},
		{true, api.Home, most, 1, 0, api.ErrOver},
		{true, api.Home, most - 1, 1, 0, api.OK},
		{true, api.Home, most, -1, most, api.OK},
		{true, api.Home, most, most, most, api.ErrOver},
		{true, api.Distance, most, 1, 0, api.ErrOver},
		{true, api.Distance, 1, most, 0, api.ErrOver},
		{true, api.Distance, 0, most, 0, api.OK},
		{true, api.Export, most, 0, most, api.OK},
		{true, api.Import, most, 1, 1, api.ErrOver},
		{true, api.Adjusted, most, 1, 1, api.ErrOver},
		{false, api.Adjusted, most, most, most, api.OK},
		{false, api.Adjusted, most, -most, 0, api.OK},
		{false, api.Input, most, 0, 0, api.OK},
		{false, api.Input, most, 1, 1, api.ErrOver},  // to the other party
		{false, api.Input, most, 0, -1, api.ErrOver}, // of the turnover
		{false, api.Input, most - 1, 0, -1, api.OK},
		{false, api.Input, most, -1, -1, api.OK},
		{false, api.Input, most, 0, -most, api.ErrOver},
		{false, none, most, 1, 1, api.ErrOver},
		{false, api.Freed, most, 1, 1, api.ErrOver},
		{false, api.Import, most, 1, 1, api.OK}, // base and tax together are no posting
		{false, api.Import, most, 1, 0, api.ErrOver},
		{false, api.Import, most, most, most, api.OK},
		{false, api.Import, most, most, most - 1, api.ErrOver},
		{false, api.Acquisition, most, 2, 2, api.OK},
		{false, api.Acquisition, most, 2, 1, api.ErrOver},
		{false, api.Received, most, most, most, api.OK},
		{false, api.Received, most, 0, -1, api.ErrOver},
		{false, api.Received, most, most, -most, api.ErrOver}, // thrice the greatest
	} {
		for _, sign := range []int{1, -1} {
			r := full(x.sale, x.kind, sign*x.base, sign*x.tax, sign*x.deduct, false)
			want, e := modelPosts(r)
			if e != x.e {
				t.Fatal("the model", x, int(e))
			}
			checkPosts(t, r, want, e)
		}
	}
}

// P24.2
func TestPostsOfEdges(t *testing.T) {
	for _, sale := range either {
		for kind := -1; kind <= 17; kind++ {
			for _, base := range amounts {
				for _, tax := range amounts {
					for _, deduct := range amounts {
						r := full(sale, kind, base, tax, deduct, false)
						want, e := modelPosts(r)
						checkPosts(t, r, want, e)
					}
				}
			}
		}
	}
}

// P24.2
func TestPostsAreTheModels(t *testing.T) {
	c := rand.New(rand.NewSource(242))
	over := 0
	for range 60000 {
		r := rowOf(c)
		want, e := modelPosts(r)
		checkPosts(t, r, want, e)
		if e == api.ErrOver {
			over++
		}
	}
	if over < 500 {
		t.Error("only", over, "were over")
	}
}

// P24.3
func TestSumTold(t *testing.T) {
	l := []post{{Account: 1, Amount: 1190}, {Account: 2, Amount: -1000}, {Account: 5, State: "FR", Amount: -100}, {Account: 5, State: "DE", Amount: -90}, {Account: 1, Amount: 4}, {Account: -7, Amount: 8}, {Account: 0, Amount: 16}}
	n, e := twin.Sum(l)
	checkSum(t, n, e, 28, api.OK, "Sum")
	for _, x := range []struct{ account, want int }{{1, 1194}, {2, -1000}, {5, -190}, {-7, 8}, {0, 16}, {3, 0}, {7, 0}, {1 << 32, 0}, {1<<32 + 1, 0}, {math.MinInt, 0}} {
		n, e := twin.Of(l, x.account)
		checkSum(t, n, e, x.want, api.OK, "Of", x.account)
	}
	for _, l := range [][]post{nil, {}} {
		n, e := twin.Sum(l)
		checkSum(t, n, e, 0, api.OK, "Sum of none")
		n, e = twin.Of(l, 1)
		checkSum(t, n, e, 0, api.OK, "Of none")
	}
}

// P24.3: the whole sum alone may be over; on an account only what is on it
func TestSumRefused(t *testing.T) {
	on := func(account, amount int) post { return post{Account: account, Amount: amount} }
	for _, x := range []struct {
		l            []post
		all, one     int
		ofAll, ofOne api.Errno
	}{
		{[]post{on(1, most), on(1, 1)}, 0, 0, api.ErrOver, api.ErrOver},
		{[]post{on(1, -most), on(1, -1)}, 0, 0, api.ErrOver, api.ErrOver},
		{[]post{on(1, most), on(2, 1)}, 0, most, api.ErrOver, api.OK},
		{[]post{on(2, 1), on(1, most), on(2, -1)}, most, most, api.OK, api.OK},
		{[]post{on(1, most), on(1, most), on(1, -most)}, most, most, api.OK, api.OK},
		{[]post{on(1, most), on(1, most), on(2, -most)}, most, 0, api.OK, api.ErrOver},
		{[]post{on(1, most), on(1, most), on(1, most), on(1, most)}, 0, 0, api.ErrOver, api.ErrOver}, // 2^64 is 0, as an int
		{[]post{on(1, most), on(1, most), on(1, -most), on(1, -most)}, 0, 0, api.OK, api.OK},
	} {
		n, e := twin.Sum(x.l)
		checkSum(t, n, e, x.all, x.ofAll, "Sum", x.l)
		n, e = twin.Of(x.l, 1)
		checkSum(t, n, e, x.one, x.ofOne, "Of", x.l)
	}
	for _, wrong := range noAmounts {
		l := []post{on(1, 5), on(2, wrong), on(1, 6)}
		n, e := twin.Sum(l)
		checkSum(t, n, e, 0, api.ErrArg, "Sum", l)
		n, e = twin.Of(l, 2)
		checkSum(t, n, e, 0, api.ErrArg, "Of", l)
		n, e = twin.Of(l, 1)
		checkSum(t, n, e, 11, api.OK, "Of the other", l)
		l = []post{on(1, most), on(1, most), on(1, wrong)}
		n, e = twin.Of(l, 1)
		checkSum(t, n, e, 0, api.ErrArg, "no amount, and over", l)
		n, e = twin.Sum(l)
		checkSum(t, n, e, 0, api.ErrArg, "no amount, and over", l)
	}
}

// P24.3
func TestSumIsTheModels(t *testing.T) {
	c := rand.New(rand.NewSource(243))
	for range 30000 {
		l, account := make([]post, c.Intn(8)), c.Intn(4)
		var all, one []int
		for i := range l {
			l[i] = post{Account: c.Intn(4), State: []string{"", "DE", "FR"}[c.Intn(3)], Amount: amountOf(c)}
			if all = append(all, l[i].Amount); l[i].Account == account {
				one = append(one, l[i].Amount)
			}
		}
		was := slices.Clone(l)
		n, e := twin.Sum(l)
		want, f := modelSum(all)
		checkSum(t, n, e, want, f, "Sum", l)
		n, e = twin.Of(l, account)
		want, f = modelSum(one)
		checkSum(t, n, e, want, f, "Of", l, account)
		if !slices.Equal(l, was) {
			t.Fatal("changed:", l, was)
		}
	}
}

// P24.3: nothing behind a list's length is looked at, or changed
func TestSumLeavesRoom(t *testing.T) {
	room := []post{{Account: 1, Amount: 5}, {Account: 1, Amount: 6}, {Account: 1, Amount: math.MinInt}}
	was := slices.Clone(room)
	n, e := twin.Sum(room[:2])
	checkSum(t, n, e, 11, api.OK, "Sum")
	n, e = twin.Of(room[:2], 1)
	checkSum(t, n, e, 11, api.OK, "Of")
	if !slices.Equal(room, was) {
		t.Error("changed:", room)
	}
}

// P24.4: of rows as they come, and of rows that Make tells
func TestBalance(t *testing.T) {
	c := rand.New(rand.NewSource(244))
	balanced := 0
	for range 60000 {
		r := rowOf(c)
		if c.Intn(2) == 0 {
			if made, e := twin.Make(twin.In{Row: r, Percent: c.Intn(101), Credit: c.Intn(2) == 0}); e == api.OK {
				r = made
			}
		}
		l, e := twin.Posts(r)
		if e != api.OK {
			continue
		}
		n, e := twin.Sum(l)
		checkSum(t, n, e, 0, api.OK, "the balance of", r, l)
		whole := 0
		for account := api.AccParty; account <= api.AccCarry; account++ {
			n, e := twin.Of(l, account)
			if e != api.OK {
				t.Fatal(r, account, int(e))
			}
			whole += n
		}
		checkSum(t, whole, api.OK, 0, api.OK, "the accounts of", r, l)
		turned, e := twin.Turn(r)
		if e != api.OK {
			t.Fatal(r, int(e))
		}
		for i := range l {
			l[i].Amount = -l[i].Amount
		}
		checkPosts(t, turned, l, api.OK)
		balanced++
	}
	if balanced < 30000 {
		t.Error("only", balanced, "were balanced")
	}
}
