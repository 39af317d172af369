package prorata_test

import (
	"math"
	"math/big"
	"math/rand"
	"slices"
	"testing"

	"octroi/api"
	"octroi/prorata"
)

const most = api.MaxMoney

var (
	either    = []bool{false, true}
	noAmounts = []int{most + 1, -most - 1, math.MaxInt, math.MinInt, math.MaxInt - 1, math.MinInt + 1}
	amounts   = []int{0, 1, 2, 3, 5, 33, 50, 99, 100, 101, 1000, 1 << 31, 1<<32 + 1, most / 2, most/2 + 1, most/100 + 1, most - 1, most, -1, -2, -50, -100, -most / 2, -most + 1, -most}
	years     = []int{2022, 2021, 2023, 0, -1, 1970, 9999, 10000, math.MaxInt, math.MinInt, 1<<32 + 2022}
	noShares  = []int{-1, 101, math.MaxInt, math.MinInt, 1<<32 + 50, -50, -100, 200}
	march     = month(2023, 3)
)

func month(y, index int) api.Period { return api.Period{Kind: api.Month, Year: y, Index: index} }

func number(n int) *big.Int { return big.NewInt(int64(n)) }

func isAmount(n *big.Int) bool { return n.CmpAbs(number(1<<62)) <= 0 }

// modelPercent is Percent, word for word as the document says it.
func modelPercent(taxed, freed int) (int, api.Errno) {
	if !isAmount(number(taxed)) || !isAmount(number(freed)) {
		return 0, api.ErrArg
	}
	t, f := number(max(taxed, 0)), number(max(freed, 0))
	both := new(big.Int).Add(t, f)
	switch {
	case !isAmount(both):
		return 0, api.ErrOver
	case both.Sign() == 0:
		return 100, api.OK
	}
	for n := range 101 { // the least n of which both are n hundredths, or more
		if new(big.Int).Mul(number(n), both).Cmp(new(big.Int).Mul(number(100), t)) >= 0 {
			return n, api.OK
		}
	}
	panic("a share above all")
}

// turned is what Turnover tells.
type turned struct {
	taxed, freed int
	e            api.Errno
}

func turnover(l []api.Row, year int) turned {
	taxed, freed, e := prorata.Turnover(l, year)
	return turned{taxed, freed, e}
}

// modelTurnover is Turnover, word for word.
func modelTurnover(l []api.Row, year int) turned {
	taxed, freed := new(big.Int), new(big.Int)
	for _, r := range l {
		switch {
		case !r.Sale || r.Origin.Year != year:
			continue
		case !isAmount(number(r.Base)):
			return turned{e: api.ErrArg}
		case r.Treat == api.Freed:
			freed.Add(freed, number(r.Base))
		default:
			taxed.Add(taxed, number(r.Base))
		}
	}
	if !isAmount(taxed) || !isAmount(freed) {
		return turned{e: api.ErrOver}
	}
	return turned{int(taxed.Int64()), int(freed.Int64()), api.OK}
}

func modelFinal(l []api.Row, year int) (int, api.Errno) {
	all := modelTurnover(l, year)
	if all.e != api.OK {
		return 0, all.e
	}
	return modelPercent(all.taxed, all.freed)
}

// modelMixed is Mixed, word for word.
func modelMixed(r api.Row, year int) bool {
	deducts := r.Treat == api.Input || r.Treat == api.Acquisition || r.Treat == api.Received || r.Treat == api.Import
	return r.Origin.Year == year && deducts && r.Mixed
}

// share tells so many hundredths of an amount, rounded half away from 0.
func share(amount, percent int) *big.Int {
	n := new(big.Int).Abs(number(amount))
	n.Mul(n, number(2*percent)).Add(n, number(100)).Div(n, number(200))
	if amount < 0 {
		n.Neg(n)
	}
	return n
}

// modelRows is Rows, word for word.
func modelRows(l []api.Row, year, percent int, p api.Period) ([]api.Row, api.Errno) {
	if percent < 0 || percent > 100 {
		return nil, api.ErrArg
	}
	var more []api.Row
	for _, r := range l {
		if !modelMixed(r, year) {
			continue
		}
		if !isAmount(number(r.Tax)) || !isAmount(number(r.Deduct)) {
			return nil, api.ErrArg
		}
		by := share(r.Tax, percent)
		by.Sub(by, number(r.Deduct))
		if !isAmount(by) {
			return nil, api.ErrOver
		}
		if by.Sign() != 0 {
			more = append(more, api.Row{Period: p, Origin: r.Origin, Doc: r.Doc, Supply: r.Supply, Treat: api.Adjusted, Party: r.Party, Deduct: int(by.Int64()), Mixed: true})
		}
	}
	return more, api.OK
}

// modelGiven is Given, word for word.
func modelGiven(l []api.Row, year int) (int, api.Errno) {
	sum, e := new(big.Int), api.OK
	for _, r := range l {
		if modelMixed(r, year) || r.Origin.Year == year && r.Treat == api.Adjusted {
			if !isAmount(number(r.Deduct)) {
				e = api.ErrArg
			}
			sum.Add(sum, number(r.Deduct))
		}
	}
	switch {
	case e != api.OK:
		return 0, e
	case !isAmount(sum):
		return 0, api.ErrOver
	}
	return int(sum.Int64()), api.OK
}

// same asks whether all calls tell of rows what the models do.
func same(t *testing.T, l []api.Row, year, percent int, p api.Period) {
	t.Helper()
	was := slices.Clone(l)
	if got, want := turnover(l, year), modelTurnover(l, year); got != want {
		t.Fatal("turnover", year, got, want)
	}
	n, e := prorata.Final(l, year)
	if want, wrong := modelFinal(l, year); n != want || e != wrong {
		t.Fatal("final", year, n, e, want, wrong)
	}
	n, e = prorata.Given(l, year)
	if want, wrong := modelGiven(l, year); n != want || e != wrong {
		t.Fatal("given", year, n, e, want, wrong)
	}
	more, e := prorata.Rows(l, year, percent, p)
	if want, wrong := modelRows(l, year, percent, p); !slices.Equal(more, want) || e != wrong {
		t.Fatal("rows", year, percent, more, e, want, wrong)
	}
	for _, r := range l {
		if got, want := prorata.Mixed(r, year), modelMixed(r, year); got != want {
			t.Fatal("mixed", r, year, got, want)
		}
	}
	if !slices.Equal(l, was) {
		t.Fatal("changed")
	}
}

// sold tells a sale of 2022.
func sold(treat, base int) api.Row {
	return api.Row{Period: month(2022, 2), Origin: month(2022, 1), Doc: "s", Sale: true, Supply: api.Service, Treat: treat, Base: base}
}

// bought tells a mixed purchase of 2022 that counts in another year.
func bought(treat, tax, deduct int) api.Row {
	return api.Row{Period: month(2023, 1), Origin: month(2022, 12), Doc: "b", Supply: api.Property, Treat: treat, Rate: 1900, State: "DE", Party: "FR1", Base: 7, Tax: tax, Deduct: deduct, Mixed: true}
}

func with(r api.Row, change func(r *api.Row)) api.Row {
	change(&r)
	return r
}

// P28.1
func TestPercentTold(t *testing.T) {
	for _, x := range []struct {
		taxed, freed, want int
		e                  api.Errno
	}{
		{1, 2, 34, api.OK},
		{2, 1, 67, api.OK},
		{0, 0, 100, api.OK},
		{-1, 0, 100, api.OK},
		{0, -1, 100, api.OK},
		{-5, -7, 100, api.OK},
		{5, -7, 100, api.OK},
		{-5, 7, 0, api.OK},
		{0, 7, 0, api.OK},
		{7, 0, 100, api.OK},
		{1, 1, 50, api.OK},
		{1, 99, 1, api.OK},
		{1, 100, 1, api.OK},
		{99, 1, 99, api.OK},
		{100, 1, 100, api.OK}, // 99 and a bit
		{98, 2, 98, api.OK},
		{981, 19, 99, api.OK},
		{1, most - 1, 1, api.OK},
		{1, most, 0, api.ErrOver},
		{most, 0, 100, api.OK},
		{0, most, 0, api.OK},
		{most, 1, 0, api.ErrOver},
		{most, most, 0, api.ErrOver},
		{most, -1, 100, api.OK},
		{most, -most, 100, api.OK},
		{-most, most, 0, api.OK},
		{most - 1, 1, 100, api.OK},
		{most / 2, most / 2, 50, api.OK},
		{most/2 + 1, most / 2, 0, api.ErrOver},
		{most + 1, 0, 0, api.ErrArg},
		{-most - 1, 0, 0, api.ErrArg},
		{0, most + 1, 0, api.ErrArg},
		{0, -most - 1, 0, api.ErrArg},
		{most, most + 1, 0, api.ErrArg}, // over as well
		{math.MaxInt, math.MaxInt, 0, api.ErrArg},
		{math.MinInt, math.MinInt, 0, api.ErrArg},
	} {
		if n, e := prorata.Percent(x.taxed, x.freed); n != x.want || e != x.e {
			t.Error(x, n, e)
		}
	}
}

// P28.1, P28.5
func TestPercentIsTheModels(t *testing.T) {
	ask := func(taxed, freed int) {
		t.Helper()
		n, e := prorata.Percent(taxed, freed)
		if want, wrong := modelPercent(taxed, freed); n != want || e != wrong {
			t.Fatal(taxed, freed, n, e, want, wrong)
		}
		if e == api.OK && (n < 0 || n > 100 || freed <= 0 && n != 100 || taxed > 0 && n == 0) {
			t.Fatal("share", taxed, freed, n)
		}
	}
	for taxed := -3; taxed < 250; taxed++ {
		for freed := -3; freed < 250; freed++ {
			ask(taxed, freed)
		}
	}
	all := slices.Concat(amounts, noAmounts)
	for _, taxed := range all {
		for _, freed := range all {
			ask(taxed, freed)
		}
	}
	c := rand.New(rand.NewSource(281))
	for range 30000 {
		ask(int(c.Int63()>>1)>>c.Intn(62), int(c.Int63()>>1)>>c.Intn(62))
	}
}

// P28.2: of each treatment, of sales and purchases, of this year and of others.
func TestTurnoverTold(t *testing.T) {
	for treat := -1; treat <= api.Adjusted+1; treat++ {
		want := turned{taxed: 11}
		if treat == api.Freed {
			want = turned{freed: 11}
		}
		if got := turnover([]api.Row{sold(treat, 11)}, 2022); got != want {
			t.Error(treat, got)
		}
		none := []api.Row{with(sold(treat, 11), func(r *api.Row) { r.Sale = false }), with(sold(treat, 11), func(r *api.Row) { r.Origin.Year = 2021 })}
		if got := turnover(none, 2022); got != (turned{}) {
			t.Error(treat, got)
		}
		for _, year := range years {
			r := with(sold(treat, 11), func(r *api.Row) { r.Origin = api.Period{Year: year} })
			if got := turnover([]api.Row{r, none[0], sold(api.Home, most)}, year); year != 2022 && got != want {
				t.Error(treat, year, got)
			}
		}
	}
	l := []api.Row{sold(api.Home, 100), sold(api.Freed, 40), sold(api.Intra, -30), sold(api.Freed, -7), bought(api.Input, 19, 19), sold(api.Abroad, 5)}
	if got := turnover(l, 2022); got != (turned{75, 33, api.OK}) {
		t.Error(got)
	}
	if n, e := prorata.Final(l, 2022); n != 70 || e != api.OK { // 69.44
		t.Error(n, e)
	}
	for _, none := range [][]api.Row{nil, {}} {
		if got := turnover(none, 2022); got != (turned{}) {
			t.Error(got)
		}
		if n, e := prorata.Final(none, 2022); n != 100 || e != api.OK {
			t.Error(n, e)
		}
	}
}

// P28.2: errors: no amount comes ahead of what is over, wherever it stands; what is over on the way alone is none.
func TestTurnoverRefused(t *testing.T) {
	home, freed := sold(api.Home, most), sold(api.Freed, most)
	one, free := sold(api.Intra, 1), sold(api.Freed, 1)
	less, freer := sold(api.Below, -1), sold(api.Freed, -1)
	for i, x := range []struct {
		l    []api.Row
		want turned
	}{
		{[]api.Row{home, freed}, turned{most, most, api.OK}},
		{[]api.Row{home, one}, turned{e: api.ErrOver}},
		{[]api.Row{freed, free}, turned{e: api.ErrOver}},
		{[]api.Row{home, one, freed, free}, turned{e: api.ErrOver}},
		{[]api.Row{home, one, less}, turned{most, 0, api.OK}},
		{[]api.Row{freed, free, freer}, turned{0, most, api.OK}},
		{[]api.Row{home, freed, home, freed, sold(api.Freed, -most), sold(api.Home, -most)}, turned{most, most, api.OK}},
		{[]api.Row{sold(api.Home, -most), less}, turned{e: api.ErrOver}},
		{[]api.Row{sold(api.Home, -most), freer}, turned{-most, -1, api.OK}},
	} {
		if got := turnover(x.l, 2022); got != x.want {
			t.Error(i, got)
		}
		for _, n := range noAmounts {
			for _, treat := range []int{api.Home, api.Freed} {
				wrong := sold(treat, n)
				for at := range len(x.l) + 1 {
					if got := turnover(slices.Insert(slices.Clone(x.l), at, wrong), 2022); got != (turned{e: api.ErrArg}) {
						t.Error(i, at, got)
					}
				}
				aside := []api.Row{with(wrong, func(r *api.Row) { r.Sale = false }), with(wrong, func(r *api.Row) { r.Origin.Year++ })}
				if got := turnover(append(aside, x.l...), 2022); got != x.want {
					t.Error(i, got)
				}
			}
		}
		same(t, x.l, 2022, 50, march)
	}
	if n, e := prorata.Final([]api.Row{home, freed}, 2022); n != 0 || e != api.ErrOver { // Percent's
		t.Error(n, e)
	}
}

// P28.3: which rows are mixed.
func TestMixed(t *testing.T) {
	for treat := -1; treat <= api.Adjusted+2; treat++ {
		for _, mixed := range either {
			for _, sale := range either {
				for _, of := range years {
					for _, year := range years {
						r := api.Row{Period: month(2022, 1), Origin: api.Period{Kind: api.Quarter, Year: of, Index: 1}, Sale: sale, Treat: treat, Mixed: mixed}
						if got := prorata.Mixed(r, year); got != modelMixed(r, year) {
							t.Fatal(r, year, got)
						}
					}
				}
			}
		}
	}
	if !prorata.Mixed(bought(api.Input, 1, 1), 2022) || prorata.Mixed(bought(api.Input, 1, 1), 2023) || prorata.Mixed(bought(api.Adjusted, 1, 1), 2022) {
		t.Error("mixed")
	}
}

// P28.3: a mixed purchase of 100 tax of which 50 were deducted; and what comes of others.
func TestRowsTold(t *testing.T) {
	got, e := prorata.Rows([]api.Row{bought(api.Input, 100, 50)}, 2022, 34, march)
	want := api.Row{Period: march, Origin: month(2022, 12), Doc: "b", Supply: api.Property, Treat: api.Adjusted, Party: "FR1", Deduct: -16, Mixed: true}
	if e != api.OK || !slices.Equal(got, []api.Row{want}) {
		t.Error(got, e)
	}
	for _, x := range []struct{ tax, deduct, percent, want int }{
		{100, 34, 34, 0},
		{100, 0, 34, 34},
		{100, 100, 100, 0},
		{100, 100, 0, -100},
		{100, 0, 0, 0},
		{-100, -50, 34, 16},
		{1, 0, 50, 1}, // a half, away from 0
		{-1, 0, 50, -1},
		{1, 0, 49, 0},
		{0, 5, 70, -5},
		{0, 0, 70, 0},
		{most, most, 100, 0},
		{most, 0, 100, most},
		{most, most, 0, -most},
		{most, -1, 99, most - most/100 + 1}, // MaxMoney is 4 above a multiple of 100
	} {
		got, e := prorata.Rows([]api.Row{bought(api.Import, x.tax, x.deduct)}, 2022, x.percent, march)
		if x.want == 0 && len(got) == 0 && e == api.OK {
			continue
		}
		if e != api.OK || len(got) != 1 || got[0].Deduct != x.want {
			t.Error(x, got, e)
		}
	}
}

// P28.3: the order of the rows, and those that come of none.
func TestRowsOrder(t *testing.T) {
	l := []api.Row{
		bought(api.Received, 100, 100),
		sold(api.Home, 5),
		with(bought(api.Input, 200, 0), func(r *api.Row) { r.Doc, r.Origin.Index = "c", 3 }),
		with(bought(api.Input, 300, 0), func(r *api.Row) { r.Mixed = false }),
		with(bought(api.Input, 400, 0), func(r *api.Row) { r.Origin.Year = 2021 }),
		bought(api.Adjusted, 500, 1),
		bought(api.Home, 600, 1),
		bought(api.Acquisition, 700, 490), // as it should be
		with(bought(api.Import, 800, 0), func(r *api.Row) { r.Sale, r.Party, r.Supply = true, "", api.Goods }),
	}
	got, e := prorata.Rows(l, 2022, 70, march)
	var told []int
	for _, r := range got {
		told = append(told, r.Deduct)
	}
	if e != api.OK || !slices.Equal(told, []int{-30, 140, 560}) || got[1].Doc != "c" || got[1].Origin != month(2022, 3) || got[2].Sale || got[2].Supply != api.Goods {
		t.Error(got, e)
	}
	for _, p := range []api.Period{{}, march, {Kind: -1, Year: math.MinInt, Index: math.MaxInt}} {
		for _, percent := range []int{0, 1, 49, 50, 70, 99, 100} {
			same(t, l, 2022, percent, p)
			same(t, l, 2021, percent, p)
			same(t, l, 2020, percent, p)
		}
	}
	for _, none := range [][]api.Row{nil, {}, l[1:2]} {
		if got, e := prorata.Rows(none, 2022, 50, march); len(got) != 0 || e != api.OK {
			t.Error(got, e)
		}
	}
}

// P28.3: errors: the share's first, then those of the first row that has one.
func TestRowsRefused(t *testing.T) {
	fine, over, under := bought(api.Input, 100, 50), bought(api.Input, most, -1), bought(api.Input, -most, 1)
	var wrong []api.Row
	for _, n := range noAmounts {
		wrong = append(wrong, bought(api.Input, n, 0), bought(api.Input, 0, n), bought(api.Input, n, n), bought(api.Input, most, n), bought(api.Input, n, most))
	}
	refused := func(l []api.Row, percent int, want api.Errno) {
		t.Helper()
		if got, e := prorata.Rows(l, 2022, percent, march); len(got) != 0 || e != want {
			t.Error(l, percent, got, e, want)
		}
	}
	for _, n := range noShares {
		for _, l := range [][]api.Row{nil, {fine}, {over}, {wrong[0]}, {sold(api.Home, 1)}} {
			refused(l, n, api.ErrArg)
		}
	}
	refused([]api.Row{over}, 100, api.ErrOver)
	refused([]api.Row{under}, 100, api.ErrOver)
	refused([]api.Row{fine, over, fine}, 100, api.ErrOver)
	for _, r := range wrong {
		for _, percent := range []int{0, 34, 100} {
			refused([]api.Row{r}, percent, api.ErrArg)
			refused([]api.Row{fine, r, fine}, percent, api.ErrArg)
			refused([]api.Row{r, over}, percent, api.ErrArg)
		}
		refused([]api.Row{over, r}, 100, api.ErrOver)
		refused([]api.Row{fine, under, r}, 100, api.ErrOver)
		aside := []api.Row{with(r, func(r *api.Row) { r.Mixed = false }), with(r, func(r *api.Row) { r.Treat = api.Home }), with(r, func(r *api.Row) { r.Origin.Year = 2021 })}
		if got, e := prorata.Rows(append(aside, fine), 2022, 34, march); e != api.OK || len(got) != 1 {
			t.Error(got, e)
		}
		same(t, append(aside, fine), 2022, 34, march)
	}
}

// P28.3: what is given, and errors: no amount ahead of what is over; other rows are none of it.
func TestGiven(t *testing.T) {
	for i, x := range []struct {
		l    []api.Row
		want int
		e    api.Errno
	}{
		{nil, 0, api.OK},
		{[]api.Row{}, 0, api.OK},
		{[]api.Row{bought(api.Input, 100, 50)}, 50, api.OK},
		{[]api.Row{bought(api.Input, 100, 50), bought(api.Adjusted, 0, -16)}, 34, api.OK},
		{[]api.Row{with(bought(api.Adjusted, 0, -16), func(r *api.Row) { r.Mixed = false })}, -16, api.OK},
		{[]api.Row{with(bought(api.Adjusted, 0, -16), func(r *api.Row) { r.Sale = true })}, -16, api.OK},
		{[]api.Row{with(bought(api.Adjusted, 0, -16), func(r *api.Row) { r.Origin.Year = 2021 })}, 0, api.OK},
		{[]api.Row{with(bought(api.Input, 0, -16), func(r *api.Row) { r.Origin.Year = 2021 })}, 0, api.OK},
		{[]api.Row{with(bought(api.Input, 0, -16), func(r *api.Row) { r.Mixed = false })}, 0, api.OK},
		{[]api.Row{bought(api.Home, 100, 50)}, 0, api.OK},
		{[]api.Row{bought(api.Input, 0, most), bought(api.Adjusted, 0, 1)}, 0, api.ErrOver},
		{[]api.Row{bought(api.Input, 0, most), bought(api.Adjusted, 0, 1), bought(api.Import, 0, -1)}, most, api.OK},
		{[]api.Row{bought(api.Input, 0, most), bought(api.Adjusted, 0, 1), bought(api.Import, 0, math.MinInt)}, 0, api.ErrArg},
		{[]api.Row{bought(api.Adjusted, 0, most+1), bought(api.Import, 0, -1)}, 0, api.ErrArg},
		{[]api.Row{bought(api.Freed, 0, most+1), bought(api.Import, 0, -1)}, -1, api.OK},
	} {
		if n, e := prorata.Given(x.l, 2022); n != x.want || e != x.e {
			t.Error(i, n, e)
		}
		same(t, x.l, 2022, 34, march)
	}
}

// rowBy tells a row by chance.
func rowBy(c *rand.Rand, reach int) api.Row {
	amount := func() int { return int(c.Uint64()%(2*uint64(reach)+1)) - reach }
	return api.Row{
		Period: month(2022+c.Intn(2), 1+c.Intn(12)), Origin: month(2021+c.Intn(3), 1+c.Intn(12)), Doc: string(rune('a' + c.Intn(26))), Sale: c.Intn(2) == 0,
		Supply: c.Intn(9), Treat: c.Intn(17), Rate: c.Intn(10001), State: "DE", Party: "FR", Base: amount(), Tax: amount(), Deduct: amount(), Mixed: c.Intn(4) > 0,
	}
}

// P28.2, P28.3: by chance, with small amounts, and with ones that are often over, or none.
func TestByChance(t *testing.T) {
	c := rand.New(rand.NewSource(282))
	for _, reach := range []int{2, 1000, most / 20, most / 2, most, most + most/50} {
		for range 4000 {
			l := make([]api.Row, c.Intn(14))
			for i := range l {
				l[i] = rowBy(c, reach)
			}
			same(t, l, 2020+c.Intn(5), c.Intn(103)-1, rowBy(c, 1).Period)
		}
	}
}

// P28.4: what was given, and what Rows adds, is what the final share is, row by row, together; nothing is left to do then.
func TestTrue(t *testing.T) {
	c := rand.New(rand.NewSource(284))
	for range 4000 {
		l := make([]api.Row, c.Intn(14))
		for i := range l {
			l[i] = rowBy(c, 5000)
			l[i].Treat = c.Intn(api.Adjusted) // nothing was trued up yet
		}
		percent, e := prorata.Final(l, 2022)
		if e != api.OK || percent < 0 || percent > 100 {
			t.Fatal(percent, e)
		}
		more, e := prorata.Rows(l, 2022, percent, march)
		if e != api.OK {
			t.Fatal(e)
		}
		want := 0
		for _, r := range l {
			if modelMixed(r, 2022) {
				want += int(share(r.Tax, percent).Int64())
			}
		}
		if got, e := prorata.Given(append(l, more...), 2022); got != want || e != api.OK {
			t.Fatal(got, want, e)
		}
	}
}

// Rule 4: spare room behind the rows is neither read nor written.
func TestSpareRoom(t *testing.T) {
	behind := bought(api.Input, 100, 0)
	l := slices.Repeat([]api.Row{behind}, 4)
	l[3] = sold(api.Home, math.MaxInt)
	same(t, l[:2], 2022, 34, march)
	if got, _ := prorata.Rows(l[:2], 2022, 34, march); len(got) != 2 {
		t.Error(got)
	}
	if n, _ := prorata.Given(l[:1], 2022); n != 0 {
		t.Error(n)
	}
	if got := turnover(l[:3], 2022); got != (turned{}) || l[2] != behind || l[3].Base != math.MaxInt {
		t.Error(got)
	}
}
