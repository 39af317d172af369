package fx_test

import (
	"math"
	"math/big"
	"math/rand"
	"slices"
	"testing"
	"time"

	"octroi/api"
	"octroi/fx"
)

var (
	currencies   = []string{"USD", "CHF", "GBP", "AAA", "ZZZ", "AAZ", "ZAA", "JPY", "EUR"}
	noCurrencies = []string{"U", "US", "USDD", "usd", "USd", "uSD", "UsD", "   ", " USD", "USD ", "US ", "U1D", "123", "@AA", "A@A", "AA@", "[AA", "A[A", "AA[", "US\x00", "\x00\x00\x00", "\xff\xff\xff", "ÄA", "AÄ", "Ä", "€", "USDUSD", "A\nA"}
	noQuarters   = []api.Period{
		{}, {Kind: api.Quarter}, {Kind: api.Quarter, Year: 2022}, {Kind: api.Quarter, Year: 2022, Index: 5}, {Kind: api.Quarter, Year: 2022, Index: -1}, {Kind: api.Quarter, Year: 2022, Index: math.MinInt}, {Kind: api.Quarter, Year: 2022, Index: math.MaxInt},
		{Kind: api.Quarter, Year: 1969, Index: 4}, {Kind: api.Quarter, Year: 10000, Index: 1}, {Kind: api.Quarter, Year: math.MinInt, Index: 1}, {Kind: api.Quarter, Year: math.MaxInt, Index: 1},
		{Kind: api.Month, Year: 2022, Index: 1}, {Kind: api.Month, Year: 2022, Index: 12}, {Kind: api.Year, Year: 2022, Index: 1}, {Kind: 0, Year: 2022, Index: 1}, {Kind: 4, Year: 2022, Index: 1}, {Kind: -2, Year: 2022, Index: 1}, {Kind: 1<<32 + 2, Year: 2022, Index: 1},
	}
	noParts   = []int{0, -1, math.MinInt, api.MaxWeight + 1, math.MaxInt, -api.MaxWeight, 1 << 62}
	noDays    = []int{-1, math.MinInt, api.MaxDay + 1, math.MaxInt}
	noAmounts = []int{api.MaxMoney + 1, -api.MaxMoney - 1, math.MinInt, math.MaxInt}
)

// pair is a rate of exchange.
type pair struct{ num, den int }

// key is of which currency it is, and when.
type key struct {
	currency    string
	year, index int
}

// model is rates of exchange, word for word as the document says it, by the library's calendar.
type model map[key]pair

func (m model) clone() model {
	other := model{}
	for k, p := range m {
		other[k] = p
	}
	return other
}

func (m model) set(currency string, q api.Period, num, den int) api.Errno {
	k := key{currency, q.Year, q.Index}
	_, ok := m[k]
	switch {
	case slices.Contains(noCurrencies, currency), currency == "":
		return api.ErrName
	case slices.Contains(noQuarters, q), num < 1, num > 1<<40, den < 1, den > 1<<40:
		return api.ErrArg
	case ok:
		return api.ErrClash
	}
	m[k] = pair{num, den}
	return api.OK
}

func (m model) rate(currency string, day int) (pair, api.Errno) {
	switch {
	case currency == "":
		return pair{1, 1}, api.OK
	case slices.Contains(noCurrencies, currency):
		return pair{}, api.ErrName
	case day < 0 || day > 2932896:
		return pair{}, api.ErrRange
	}
	date := time.Unix(int64(day)*24*60*60, 0).UTC()
	p, ok := m[key{currency, date.Year(), 1 + int(date.Month()-1)/3}]
	if !ok {
		return pair{}, api.ErrFx
	}
	return p, api.OK
}

func (m model) convert(currency string, day, amount int) (int, api.Errno) {
	p, e := m.rate(currency, day)
	if e != api.OK {
		return 0, e
	}
	if amount < -1<<62 || amount > 1<<62 {
		return 0, api.ErrArg
	}
	twice := new(big.Int).Mul(big.NewInt(int64(amount)), big.NewInt(int64(2*p.num)))
	sign := int64(twice.Sign())
	twice.Abs(twice).Add(twice, big.NewInt(int64(p.den))).Quo(twice, big.NewInt(int64(2*p.den))) // half away from 0
	twice.Mul(twice, big.NewInt(sign))
	if twice.CmpAbs(big.NewInt(1<<62)) > 0 {
		return 0, api.ErrOver
	}
	return int(twice.Int64()), api.OK
}

// quarter tells a quarter.
func quarter(year, index int) api.Period {
	return api.Period{Kind: api.Quarter, Year: year, Index: index}
}

// dayOf tells a day's number, by the library.
func dayOf(year, month, day int) int {
	return int(time.Date(year, time.Month(month), day, 0, 0, 0, 0, time.UTC).Unix() / (24 * 60 * 60))
}

func check[T comparable](t *testing.T, got, want T, what ...any) {
	t.Helper()
	if got != want {
		t.Fatalf("%v: %v, not %v", what, got, want)
	}
}

// checkRate holds just that rate, or that error, to be told.
func checkRate(t *testing.T, x *fx.Table, currency string, day int, want pair, wantE api.Errno, what ...any) {
	t.Helper()
	num, den, e := x.Rate(currency, day)
	check(t, e, wantE, what, "error of rate of", currency, "on day", day)
	check(t, pair{num, den}, want, what, "rate of", currency, "on day", day)
}

// checkConvert holds just that amount, or that error, to be told.
func checkConvert(t *testing.T, x *fx.Table, currency string, day, amount, want int, wantE api.Errno, what ...any) {
	t.Helper()
	n, e := x.Convert(currency, day, amount)
	check(t, e, wantE, what, "error of", amount, currency, "on day", day)
	check(t, n, want, what, amount, currency, "on day", day)
}

// checkIs holds all that a table tells of these days and amounts to be the model's.
func checkIs(t *testing.T, x *fx.Table, m model, days, amounts []int, what ...any) {
	t.Helper()
	check(t, x.Len(), len(m), what, "len")
	for _, currency := range append(currencies, "", noCurrencies[0], "usd") {
		for _, day := range days {
			p, e := m.rate(currency, day)
			checkRate(t, x, currency, day, p, e, what...)
			for _, amount := range amounts {
				n, e := m.convert(currency, day, amount)
				checkConvert(t, x, currency, day, amount, n, e, what...)
			}
		}
	}
}

// put holds a rate to be set.
func put(t *testing.T, x *fx.Table, currency string, q api.Period, num, den int) {
	t.Helper()
	check(t, x.Set(currency, q, num, den), api.OK, "set", currency, q, num, den)
}

// P16.1, P16.2, P16.3
func TestNew(t *testing.T) {
	x := fx.New()
	if x == nil {
		t.Fatal("no table")
	}
	checkIs(t, x, model{}, append([]int{0, 1, 19782, api.MaxDay}, noDays...), append([]int{0, 105}, noAmounts...), "new")
}

// P16.2
func TestExample(t *testing.T) {
	x := fx.New()
	put(t, x, "USD", quarter(2022, 1), 9, 10)
	checkRate(t, x, "USD", 19000, pair{9, 10}, api.OK)
	checkConvert(t, x, "USD", 19000, 105, 95, api.OK)
}

// P16.1
func TestSetErrorsInOrder(t *testing.T) {
	var none *fx.Table
	x, m := fx.New(), model{}
	put(t, x, "USD", quarter(2022, 1), 9, 10)
	m.set("USD", quarter(2022, 1), 9, 10)
	refused := func(currency string, q api.Period, num, den int, want api.Errno) {
		t.Helper()
		check(t, none.Set(currency, q, num, den), api.ErrNil, "nil", currency, q, num, den)
		check(t, new(fx.Table).Set(currency, q, num, den), api.ErrNil, "plain", currency, q, num, den)
		check(t, x.Set(currency, q, num, den), want, currency, q, num, den)
		check(t, x.Len(), 1, "len behind", currency, q, num, den)
	}
	for _, currency := range append(noCurrencies, "") {
		refused(currency, quarter(2022, 2), 9, 10, api.ErrName)
		refused(currency, api.Period{}, 0, 0, api.ErrName)
	}
	for _, currency := range []string{"USD", "CHF"} { // of one that is there, and of one that is not
		for _, q := range noQuarters {
			refused(currency, q, 9, 10, api.ErrArg)
			refused(currency, q, 0, 10, api.ErrArg)
		}
		for _, n := range noParts {
			for _, q := range []api.Period{quarter(2022, 1), quarter(2022, 2)} {
				refused(currency, q, n, 10, api.ErrArg)
				refused(currency, q, 9, n, api.ErrArg)
				refused(currency, q, n, n, api.ErrArg)
			}
		}
	}
	refused("USD", quarter(2022, 1), 9, 10, api.ErrClash) // the same once more
	refused("USD", quarter(2022, 1), 8, 10, api.ErrClash)
	refused("USD", quarter(2022, 1), 18, 20, api.ErrClash)
	checkIs(t, x, m, []int{0, 18992, 19000, 19100, api.MaxDay}, []int{105}, "behind all that was refused")
}

// P16.1
func TestWhatMayBeSet(t *testing.T) {
	for _, currency := range currencies {
		for _, q := range []api.Period{quarter(1970, 1), quarter(1970, 4), quarter(2024, 1), quarter(2024, 2), quarter(2024, 3), quarter(9999, 1), quarter(9999, 4)} {
			for _, p := range []pair{{1, 1}, {9, 10}, {1, api.MaxWeight}, {api.MaxWeight, 1}, {api.MaxWeight, api.MaxWeight}, {api.MaxWeight - 1, 2}, {2, 4}} {
				x := fx.New()
				put(t, x, currency, q, p.num, p.den)
				first := dayOf(q.Year, 3*q.Index-2, 1)
				checkRate(t, x, currency, first, p, api.OK) // as it was set, not cut down
				checkConvert(t, x, currency, first, p.den, p.num, api.OK)
				checkConvert(t, x, currency, first, -p.den, -p.num, api.OK)
				check(t, x.Len(), 1, "len")
			}
		}
	}
}

// P16.2
func TestEachDayOfAQuarter(t *testing.T) {
	for _, q := range []api.Period{quarter(1970, 1), quarter(2021, 4), quarter(2022, 1), quarter(2024, 1), quarter(2022, 3), quarter(9999, 4)} {
		x := fx.New()
		put(t, x, "USD", q, 9, 10)
		first, behind := dayOf(q.Year, 3*q.Index-2, 1), dayOf(q.Year, 3*q.Index+1, 1)
		for day := max(first-100, 0); day < min(behind+100, api.MaxDay+1); day++ {
			if first <= day && day < behind {
				checkRate(t, x, "USD", day, pair{9, 10}, api.OK, q)
				checkConvert(t, x, "USD", day, 105, 95, api.OK, q)
				continue
			}
			checkRate(t, x, "USD", day, pair{}, api.ErrFx, q)
			checkConvert(t, x, "USD", day, 105, 0, api.ErrFx, q)
		}
	}
}

// P16.2
func TestRateErrorsInOrder(t *testing.T) {
	var none *fx.Table
	x := fx.New()
	put(t, x, "USD", quarter(2022, 1), 9, 10)
	for _, day := range append([]int{0, 19000, api.MaxDay}, noDays...) {
		for _, currency := range slices.Concat(noCurrencies, []string{"", "USD", "CHF"}) {
			checkRate(t, none, currency, day, pair{}, api.ErrNil, "nil")
			checkRate(t, new(fx.Table), currency, day, pair{}, api.ErrNil, "plain")
		}
		checkRate(t, x, "", day, pair{1, 1}, api.OK)
		for _, currency := range noCurrencies {
			checkRate(t, x, currency, day, pair{}, api.ErrName)
		}
	}
	for _, day := range noDays {
		checkRate(t, x, "USD", day, pair{}, api.ErrRange)
		checkRate(t, x, "CHF", day, pair{}, api.ErrRange)
	}
	checkRate(t, x, "CHF", 19000, pair{}, api.ErrFx)
	checkRate(t, x, "USD", 0, pair{}, api.ErrFx)
	check(t, x.Len(), 1, "len behind all that was asked")
}

// P16.2
func TestConvertErrorsInOrder(t *testing.T) {
	var none *fx.Table
	x := fx.New()
	put(t, x, "USD", quarter(2022, 1), 9, 10)
	put(t, x, "CHF", quarter(2022, 1), 2, 1)
	for _, amount := range append([]int{0, 105, -105, api.MaxMoney, -api.MaxMoney}, noAmounts...) {
		checkConvert(t, none, "USD", 19000, amount, 0, api.ErrNil, "nil")
		checkConvert(t, none, "", 19000, amount, 0, api.ErrNil, "nil")
		checkConvert(t, new(fx.Table), "USD", 19000, amount, 0, api.ErrNil, "plain")
		checkConvert(t, new(fx.Table), "", 19000, amount, 0, api.ErrNil, "plain")
		for _, currency := range noCurrencies {
			checkConvert(t, x, currency, 19000, amount, 0, api.ErrName)
			checkConvert(t, x, currency, -1, amount, 0, api.ErrName)
		}
		for _, day := range noDays {
			checkConvert(t, x, "USD", day, amount, 0, api.ErrRange)
		}
		checkConvert(t, x, "USD", 0, amount, 0, api.ErrFx)
		checkConvert(t, x, "GBP", 19000, amount, 0, api.ErrFx)
	}
	for _, amount := range noAmounts {
		checkConvert(t, x, "USD", 19000, amount, 0, api.ErrArg)
		checkConvert(t, x, "CHF", 19000, amount, 0, api.ErrArg)
		checkConvert(t, x, "", 19000, amount, 0, api.ErrArg)
		checkConvert(t, x, "", -1, amount, 0, api.ErrArg)
	}
	checkConvert(t, x, "CHF", 19000, api.MaxMoney/2, api.MaxMoney, api.OK)
	checkConvert(t, x, "CHF", 19000, api.MaxMoney/2+1, 0, api.ErrOver)
	checkConvert(t, x, "CHF", 19000, -api.MaxMoney/2, -api.MaxMoney, api.OK)
	checkConvert(t, x, "CHF", 19000, -api.MaxMoney/2-1, 0, api.ErrOver)
}

// P16.2
func TestConvert(t *testing.T) {
	x := fx.New()
	put(t, x, "USD", quarter(2022, 1), 1, 2)
	put(t, x, "CHF", quarter(2022, 1), 3, 7)
	put(t, x, "JPY", quarter(2022, 1), api.MaxWeight, api.MaxWeight-1)
	for _, c := range []struct {
		currency     string
		amount, want int
	}{
		{"USD", 0, 0}, {"USD", 1, 1}, {"USD", 2, 1}, {"USD", 3, 2}, {"USD", -1, -1}, {"USD", -2, -1}, {"USD", -3, -2}, // half away from 0
		{"CHF", 1, 0}, {"CHF", 2, 1}, {"CHF", 3, 1}, {"CHF", 7, 3}, {"CHF", 8, 3}, {"CHF", -2, -1}, {"CHF", -8, -3},
		{"USD", api.MaxMoney, api.MaxMoney / 2}, {"USD", -api.MaxMoney, -api.MaxMoney / 2},
		{"JPY", api.MaxWeight - 1, api.MaxWeight}, {"JPY", 1, 1},
		{"", 0, 0}, {"", 105, 105}, {"", -105, -105}, {"", api.MaxMoney, api.MaxMoney}, {"", -api.MaxMoney, -api.MaxMoney},
	} {
		checkConvert(t, x, c.currency, 19000, c.amount, c.want, api.OK)
	}
	for _, day := range append(noDays, 0, api.MaxDay) { // the home state's own money, on each day
		checkConvert(t, x, "", day, 105, 105, api.OK)
	}
}

// P16.3
func TestClone(t *testing.T) {
	days := []int{dayOf(2022, 1, 1), dayOf(2022, 4, 1), dayOf(2022, 7, 1)}
	set := func(x *fx.Table, m model, currency string, q api.Period, num, den int) {
		t.Helper()
		put(t, x, currency, q, num, den)
		m.set(currency, q, num, den)
	}
	x, m := fx.New(), model{}
	set(x, m, "USD", quarter(2022, 1), 9, 10)
	set(x, m, "CHF", quarter(2022, 2), 1, 3)
	other, otherModel := x.Clone(), m.clone()
	if other == x {
		t.Fatal("a clone is the table itself")
	}
	checkIs(t, other, otherModel, days, []int{105}, "the clone, at first")
	check(t, other.Set("USD", quarter(2022, 1), 1, 1), api.ErrClash, "on a clone")
	set(other, otherModel, "USD", quarter(2022, 2), 8, 10)
	set(other, otherModel, "GBP", quarter(2022, 3), 6, 5)
	checkIs(t, x, m, days, []int{105}, "one whose clone was given")
	set(x, m, "USD", quarter(2022, 2), 7, 10)
	set(x, m, "JPY", quarter(2022, 1), 1, 130)
	checkIs(t, x, m, days, []int{105}, "one that was given")
	checkIs(t, other, otherModel, days, []int{105}, "the clone")
	empty := fx.New().Clone()
	check(t, empty.Len(), 0, "the clone of none")
	put(t, empty, "USD", quarter(2022, 1), 9, 10)
}

// P16.1, P16.2, P16.3
func TestNoTable(t *testing.T) {
	var none *fx.Table
	for what, x := range map[string]*fx.Table{"nil": none, "plain": {}, "new": new(fx.Table)} {
		check(t, x.Set("USD", quarter(2022, 1), 9, 10), api.ErrNil, what)
		checkRate(t, x, "USD", 19000, pair{}, api.ErrNil, what)
		checkRate(t, x, "", 19000, pair{}, api.ErrNil, what)
		checkConvert(t, x, "", 19000, 105, 0, api.ErrNil, what)
		check(t, x.Len(), 0, what, "len")
		if x.Clone() != nil {
			t.Error(what, "has a clone")
		}
	}
}

// oneOf tells one of the right ones, or, now and then, one of the wrong ones.
func oneOf[T any](c *rand.Rand, right, wrong []T) T {
	if c.Intn(20) == 0 {
		return wrong[c.Intn(len(wrong))]
	}
	return right[c.Intn(len(right))]
}

// P16.1, P16.2, P16.3
func TestTableIsTheModels(t *testing.T) {
	c := rand.New(rand.NewSource(16))
	parts := []int{1, 2, 3, 9, 10, 1234567, api.MaxWeight - 1, api.MaxWeight}
	var quarters []api.Period
	var days []int
	for i := range 6 {
		quarters = append(quarters, quarter(2021+i/4, 1+i%4))
		days = append(days, dayOf(2021, 3*i+1, 1), dayOf(2021, 3*i+4, 1)-1)
	}
	for range 10 {
		tables, models := []*fx.Table{fx.New()}, []model{{}}
		for step := range 50 {
			at := c.Intn(len(tables))
			if c.Intn(20) == 0 {
				tables, models = append(tables, tables[at].Clone()), append(models, models[at].clone())
			}
			currency, q := oneOf(c, currencies[:4], noCurrencies), oneOf(c, quarters, noQuarters)
			num, den := oneOf(c, parts, noParts), oneOf(c, parts, noParts)
			check(t, tables[at].Set(currency, q, num, den), models[at].set(currency, q, num, den), "step", step, currency, q, num, den)
			amounts := []int{0, c.Intn(2000) - 1000, c.Int() - c.Int(), c.Intn(1<<50) - 1<<49}
			for j := range tables { // a step on one of them changes no other
				checkIs(t, tables[j], models[j], days, amounts, "table", j, "behind step", step, "on", at)
			}
		}
	}
}
