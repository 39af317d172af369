package threshold_test

import (
	"math"
	"math/big"
	"math/rand"
	"slices"
	"testing"

	"octroi/api"
	"octroi/threshold"
)

const limit = 1000000 // ten thousand, in cents

var (
	either    = []bool{false, true}
	years     = []int{1970, 1971, 2021, 2022, 2023, 2024, 9998, 9999}
	noYears   = []int{1969, 1968, 10000, 10001, 0, -1, -2022, math.MinInt, math.MinInt + 1, math.MaxInt, 1<<32 + 2022, -1<<32 + 2022}
	amounts   = []int{0, 1, -1, 5, limit - 1, limit, limit + 1, -limit - 1, -limit, 1 << 40, api.MaxMoney - 1, api.MaxMoney, -api.MaxMoney, 1 - api.MaxMoney}
	noAmounts = []int{api.MaxMoney + 1, -api.MaxMoney - 1, math.MinInt, math.MinInt + 1, math.MaxInt}
)

// part is an amount that was added to a year.
type part struct{ year, amount int }

// model is a total, word for word as the document says it: what was added, in whole numbers without a bound.
type model []part

// of tells a year's total.
func (m model) of(year int) *big.Int {
	sum := new(big.Int)
	for _, p := range m {
		if p.year == year {
			sum.Add(sum, big.NewInt(int64(p.amount)))
		}
	}
	return sum
}

// with tells a year's total with an amount.
func (m model) with(year, amount int) (*big.Int, api.Errno) {
	sum := m.of(year)
	sum.Add(sum, big.NewInt(int64(amount)))
	switch {
	case year < 1970 || year > 9999:
		return sum, api.ErrRange
	case amount > 1<<62 || amount < -1<<62:
		return sum, api.ErrArg
	case sum.CmpAbs(big.NewInt(1<<62)) > 0:
		return sum, api.ErrOver
	}
	return sum, api.OK
}

func (m *model) add(year, amount int) api.Errno {
	_, e := m.with(year, amount)
	if e == api.OK {
		*m = append(*m, part{year, amount})
	}
	return e
}

func (m model) over(year, amount int, opted bool) (bool, api.Errno) {
	sum, e := m.with(year, amount)
	if e != api.OK {
		return false, e
	}
	bound := big.NewInt(limit)
	return opted || m.of(year-1).Cmp(bound) > 0 || sum.Cmp(bound) > 0, api.OK
}

func (m model) years() []int {
	var l []int
	for _, p := range m {
		if m.of(p.year).Sign() != 0 && !slices.Contains(l, p.year) {
			l = append(l, p.year)
		}
	}
	slices.Sort(l)
	return l
}

func check[T comparable](t *testing.T, got, want T, what ...any) {
	t.Helper()
	if got != want {
		t.Fatalf("%v: %v, not %v", what, got, want)
	}
}

// checkOver holds just that answer, or that error, to be told.
func checkOver(t *testing.T, x *threshold.Total, year, amount int, opted, want bool, wantE api.Errno, what ...any) {
	t.Helper()
	over, e := x.Over(year, amount, opted)
	check(t, e, wantE, what, "error of over", year, amount, opted)
	check(t, over, want, what, "over", year, amount, opted)
}

func checkYears(t *testing.T, x *threshold.Total, want []int, what ...any) {
	t.Helper()
	if got := x.Years(); !slices.Equal(got, want) {
		t.Fatalf("%v: years %v, not %v", what, got, want)
	}
}

// checkSums holds the totals that are told to be the model's.
func checkSums(t *testing.T, x *threshold.Total, m model, what ...any) {
	t.Helper()
	checkYears(t, x, m.years(), what...)
	for _, year := range slices.Concat(years, noYears) {
		check(t, x.Of(year), int(m.of(year).Int64()), what, "of", year)
	}
}

// checkIs holds all that is told to be the model's.
func checkIs(t *testing.T, x *threshold.Total, m model, what ...any) {
	t.Helper()
	checkSums(t, x, m, what...)
	for _, year := range slices.Concat(years, noYears) {
		for _, amount := range slices.Concat(amounts, noAmounts) {
			for _, opted := range either {
				want, e := m.over(year, amount, opted)
				checkOver(t, x, year, amount, opted, want, e, what...)
			}
		}
	}
	checkSums(t, x, m, what, "behind all that was asked")
}

// put holds an amount to be added.
func put(t *testing.T, x *threshold.Total, year, amount int) {
	t.Helper()
	check(t, x.Add(year, amount), api.OK, "add", year, amount)
}

// made tells a total of these.
func made(t *testing.T, l ...part) (*threshold.Total, model) {
	t.Helper()
	x := threshold.New()
	if x == nil {
		t.Fatal("no total")
	}
	for _, p := range l {
		put(t, x, p.year, p.amount)
	}
	return x, l
}

// P19.1, P19.2, P19.3
func TestNew(t *testing.T) {
	x, m := made(t)
	checkIs(t, x, m, "new")
	other, _ := made(t, part{2022, 5})
	check(t, x.Of(2022), 0, "one beside it")
	check(t, other.Of(2022), 5, "another one")
}

// P19.2
func TestExample(t *testing.T) {
	x, _ := made(t, part{2022, 600000})
	checkOver(t, x, 2022, 400000, false, false, api.OK)
	checkOver(t, x, 2022, 400001, false, true, api.OK)
}

// P19.2
func TestLimit(t *testing.T) {
	check(t, threshold.Limit, 1000000, "limit")
	for _, year := range years {
		for _, first := range []int{0, 1, 600000, limit - 1, limit, limit + 1, 2 * limit, -1, -limit, limit + 1 - api.MaxMoney} {
			x, m := made(t, part{year, first})
			for _, together := range []int{limit - 1, limit, limit + 1} {
				checkOver(t, x, year, together-first, false, together > limit, api.OK, "of", first)
				checkOver(t, x, year, together-first, true, true, api.OK, "of", first)
			}
			checkOver(t, x, year, 0, false, first > limit, api.OK, "of", first)
			checkSums(t, x, m, "of", first)
		}
	}
}

// P19.2
func TestTheYearAhead(t *testing.T) {
	for _, year := range []int{1970, 1971, 2022, 9997, 9998} {
		for _, first := range []int{limit - 1, limit, limit + 1, api.MaxMoney} {
			x, _ := made(t, part{year, first})
			for _, amount := range []int{0, 1, -1, limit, -limit, -api.MaxMoney} {
				checkOver(t, x, year+1, amount, false, first > limit, api.OK, "behind", first)
				checkOver(t, x, year+1, amount, true, true, api.OK, "behind", first)
			}
			checkOver(t, x, year+1, limit+1, false, true, api.OK, "behind", first)
		}
	}
	x, _ := made(t, part{2022, api.MaxMoney}) // it counts for its own year and for the next one, and for no other
	for _, year := range []int{1970, 2020, 2021, 2024, 2025, 9999} {
		checkOver(t, x, year, limit, false, false, api.OK, "of 2022")
	}
	// The year ahead alone is not added to the year's own.
	x, _ = made(t, part{2021, limit}, part{2022, limit})
	checkOver(t, x, 2022, 0, false, false, api.OK, "of two years")
	checkOver(t, x, 2023, limit, false, false, api.OK, "of two years")
	checkOver(t, x, 2022, 1, false, true, api.OK, "of two years")
}

// P19.2
func TestTheFirstAndTheLastYear(t *testing.T) {
	x, m := made(t, part{1970, limit + 1}, part{9999, limit + 1})
	checkIs(t, x, m, "both ends")
	checkOver(t, x, 1970, 0, false, true, api.OK)
	checkOver(t, x, 1971, 0, false, true, api.OK)
	checkOver(t, x, 9998, 0, false, false, api.OK)
	checkOver(t, x, 9999, 0, false, true, api.OK)
	for _, opted := range either {
		checkOver(t, x, 1969, 0, opted, false, api.ErrRange)
		checkOver(t, x, 10000, 0, opted, false, api.ErrRange)
	}
	x, _ = made(t)
	checkOver(t, x, 1970, limit, false, false, api.OK, "nothing ahead of it")
}

// P19.1
func TestAddErrorsInOrder(t *testing.T) {
	var none *threshold.Total
	x, m := made(t, part{2022, api.MaxMoney}, part{2023, -api.MaxMoney}, part{2024, 5})
	refused := func(year, amount int, want api.Errno) {
		t.Helper()
		check(t, none.Add(year, amount), api.ErrNil, "nil", year, amount)
		check(t, new(threshold.Total).Add(year, amount), api.ErrNil, "plain", year, amount)
		check(t, x.Add(year, amount), want, year, amount)
		checkSums(t, x, m, "behind", year, amount)
	}
	for _, year := range noYears {
		for _, amount := range slices.Concat(amounts, noAmounts) {
			refused(year, amount, api.ErrRange)
		}
	}
	for _, year := range years { // of those that have something, and of others
		for _, amount := range noAmounts {
			refused(year, amount, api.ErrArg)
		}
	}
	for _, n := range []int{1, 2, limit, api.MaxMoney} {
		refused(2022, n, api.ErrOver)
		refused(2023, -n, api.ErrOver)
	}
	refused(2024, api.MaxMoney-4, api.ErrOver)
	checkIs(t, x, m, "behind all that was refused")
	put(t, x, 2024, api.MaxMoney-5)
	put(t, x, 2022, -1)
	put(t, x, 2022, 1)
	check(t, x.Of(2022), api.MaxMoney, "2022")
	check(t, x.Of(2024), api.MaxMoney, "2024")
}

// P19.2
func TestOverErrorsInOrder(t *testing.T) {
	var none *threshold.Total
	x, m := made(t, part{2022, api.MaxMoney}, part{2023, -api.MaxMoney}, part{2024, 5})
	for _, opted := range either { // the choice hides no error
		refused := func(year, amount int, want api.Errno) {
			t.Helper()
			checkOver(t, none, year, amount, opted, false, api.ErrNil, "nil")
			checkOver(t, new(threshold.Total), year, amount, opted, false, api.ErrNil, "plain")
			checkOver(t, x, year, amount, opted, false, want)
		}
		for _, year := range noYears {
			for _, amount := range slices.Concat(amounts, noAmounts) {
				refused(year, amount, api.ErrRange)
			}
		}
		for _, year := range years {
			for _, amount := range noAmounts {
				refused(year, amount, api.ErrArg)
			}
		}
		for _, n := range []int{1, 2, limit, api.MaxMoney} {
			refused(2022, n, api.ErrOver)
			refused(2023, -n, api.ErrOver)
		}
		refused(2024, api.MaxMoney-4, api.ErrOver)
		checkOver(t, x, 2024, api.MaxMoney-5, opted, true, api.OK)
		checkOver(t, x, 2023, 0, opted, true, api.OK) // the year ahead is above the limit
	}
	checkSums(t, x, m, "behind all that was asked")
}

// P19.2
func TestOverChangesNothing(t *testing.T) {
	x, m := made(t, part{2021, 7}, part{2022, 600000})
	for range 5 {
		for _, amount := range []int{400001, 400000, -600000, 0, api.MaxMoney, -api.MaxMoney} {
			for _, opted := range either {
				x.Over(2022, amount, opted)
				x.Over(2021, -7, opted)
				x.Over(2023, amount, opted)
			}
		}
		checkSums(t, x, m, "behind over")
	}
	checkOver(t, x, 2022, 400000, false, false, api.OK)
}

// P19.1, P19.3
func TestYears(t *testing.T) {
	x, _ := made(t)
	put(t, x, 2022, 0)
	checkYears(t, x, nil, "nothing was added")
	put(t, x, 9999, 5)
	put(t, x, 1970, -5)
	put(t, x, 2022, 1)
	put(t, x, 2021, 1)
	checkYears(t, x, []int{1970, 2021, 2022, 9999}, "four years")
	put(t, x, 2022, 0)
	put(t, x, 2021, -1)
	put(t, x, 1970, 5)
	checkYears(t, x, []int{2022, 9999}, "two came to nothing")
	check(t, x.Of(2021), 0, "2021")
	check(t, x.Of(1970), 0, "1970")
	put(t, x, 2021, -3)
	checkYears(t, x, []int{2021, 2022, 9999}, "one has something again")
	check(t, x.Of(2021), -3, "2021")
	put(t, x, 2021, 4)
	check(t, x.Of(2021), 1, "2021")
}

// P19.3
func TestYearsRise(t *testing.T) {
	c := rand.New(rand.NewSource(193))
	for range 20 {
		x, _ := made(t)
		var want []int
		for _, i := range c.Perm(9999 - 1970 + 1)[:200] {
			put(t, x, 1970+i, 1+c.Intn(5))
			want = append(want, 1970+i)
		}
		slices.Sort(want)
		checkYears(t, x, want, "by chance")
		checkYears(t, x.Clone(), want, "their clone")
	}
	x, _ := made(t)
	var want []int
	for year := 9999; year >= 1970; year-- { // each year that may be
		put(t, x, year, year)
		want = append(want, year)
	}
	slices.Reverse(want)
	checkYears(t, x, want, "all years")
	for _, year := range want {
		check(t, x.Of(year), year, year)
	}
}

// P19.3
func TestYearsAreTheCallersOwn(t *testing.T) {
	x, m := made(t, part{2021, 1}, part{2022, 2})
	told := x.Years()
	told[0], told[1] = 1999, 0
	_ = append(told, 5)
	checkSums(t, x, m, "behind what the caller wrote")
}

// P19.1
func TestYearsAreApart(t *testing.T) {
	x, m := made(t)
	for i, year := range years {
		for _, amount := range []int{i + 1, limit, -5} {
			put(t, x, year, amount)
			m.add(year, amount)
			checkSums(t, x, m, "behind", year, amount)
		}
	}
}

// P19.1
func TestSumsAtTheEnds(t *testing.T) {
	for _, sign := range []int{1, -1} {
		x, _ := made(t, part{2022, sign * api.MaxMoney})
		check(t, x.Add(2022, sign), api.ErrOver, "one more")
		check(t, x.Add(2022, sign*api.MaxMoney), api.ErrOver, "as much again")
		put(t, x, 2022, -sign*api.MaxMoney)
		checkYears(t, x, nil, "it came to nothing")
		put(t, x, 2022, -sign*api.MaxMoney)
		check(t, x.Of(2022), -sign*api.MaxMoney, "of the other sign")
		put(t, x, 2022, sign*api.MaxMoney)
		put(t, x, 2022, sign*(api.MaxMoney-1))
		put(t, x, 2022, sign)
		check(t, x.Of(2022), sign*api.MaxMoney, "in two steps")
	}
}

// P19.3
func TestClone(t *testing.T) {
	x, m := made(t, part{2021, 5}, part{2022, 600000})
	other, otherModel := x.Clone(), slices.Clone(m)
	if other == x {
		t.Fatal("a clone is the total itself")
	}
	checkIs(t, other, otherModel, "the clone, at first")
	put(t, other, 2022, 400001)
	put(t, other, 2021, -5)
	put(t, other, 2023, 1)
	otherModel = append(otherModel, part{2022, 400001}, part{2021, -5}, part{2023, 1})
	checkIs(t, x, m, "one whose clone was added to")
	put(t, x, 2022, -600000)
	put(t, x, 2024, 9)
	m = append(m, part{2022, -600000}, part{2024, 9})
	checkIs(t, x, m, "one that was added to")
	checkIs(t, other, otherModel, "the clone")
	empty, _ := made(t)
	copied := empty.Clone()
	put(t, copied, 2022, 1)
	checkIs(t, copied, model{{2022, 1}}, "the clone of nothing")
	checkIs(t, empty, nil, "nothing")
}

// P19.1, P19.2, P19.3
func TestNoTotal(t *testing.T) {
	var none *threshold.Total
	for what, x := range map[string]*threshold.Total{"nil": none, "plain": {}, "new": new(threshold.Total)} {
		checkYears(t, x, nil, what)
		if x.Clone() != nil {
			t.Error(what, "has a clone")
		}
		for _, year := range slices.Concat(years, noYears) {
			check(t, x.Of(year), 0, what, year)
			for _, amount := range slices.Concat(amounts, noAmounts) {
				check(t, x.Add(year, amount), api.ErrNil, what, year, amount)
				for _, opted := range either {
					checkOver(t, x, year, amount, opted, false, api.ErrNil, what)
				}
			}
		}
		checkYears(t, x, nil, what)
	}
}

// P19.4
func TestOncePassedItStaysSo(t *testing.T) {
	c := rand.New(rand.NewSource(194))
	for range 200 {
		x, _ := made(t)
		passed := map[int]bool{}
		for range 60 {
			year, amount := 2020+c.Intn(6), c.Intn(300000)
			over, e := x.Over(year, amount, false)
			check(t, e, api.OK, year, amount)
			if passed[year] || passed[year-1] {
				check(t, over, true, "passed, and over", year, amount)
			}
			put(t, x, year, amount)
			now, e := x.Over(year, 0, false)
			check(t, e, api.OK, year)
			check(t, now, over, "behind", year, amount) // as the amount was told to be, so is what comes behind it
			passed[year] = passed[year] || x.Of(year) > limit
		}
	}
}

// P19.2
func TestWhatIsTakenBackIsNotOver(t *testing.T) {
	x, _ := made(t, part{2022, limit + 1})
	checkOver(t, x, 2022, -1, false, false, api.OK)
	checkOver(t, x, 2023, limit, false, true, api.OK)
	put(t, x, 2022, -1)
	checkOver(t, x, 2022, 0, false, false, api.OK)
	checkOver(t, x, 2023, limit, false, false, api.OK)
}

// P19.1, P19.2, P19.3
func TestTotalsAreTheModels(t *testing.T) {
	c := rand.New(rand.NewSource(19))
	amount := func() int {
		switch c.Intn(6) {
		case 0:
			return noAmounts[c.Intn(len(noAmounts))]
		case 1, 2:
			return amounts[c.Intn(len(amounts))]
		}
		return c.Intn(3*limit) - limit
	}
	for range 10 {
		totals, models := []*threshold.Total{threshold.New()}, []model{nil}
		for step := range 60 {
			at := c.Intn(len(totals))
			if c.Intn(20) == 0 {
				totals, models = append(totals, totals[at].Clone()), append(models, slices.Clone(models[at]))
			}
			year, n := years[c.Intn(len(years))], amount()
			switch c.Intn(10) {
			case 0:
				year = noYears[c.Intn(len(noYears))]
			case 1, 2:
				n = -totals[at].Of(year) // it comes to nothing
			}
			check(t, totals[at].Add(year, n), models[at].add(year, n), "step", step, year, n)
			for j := range totals { // a step on one of them changes no other
				checkIs(t, totals[j], models[j], "total", j, "behind step", step, "on", at)
			}
		}
	}
}
