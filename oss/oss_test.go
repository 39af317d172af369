package oss_test

import (
	"fmt"
	"math"
	"math/big"
	"math/rand"
	"reflect"
	"slices"
	"sort"
	"strings"
	"testing"

	"octroi/api"
	"octroi/ledger"
	"octroi/oss"
)

const most = api.MaxMoney

var (
	first      = quarter(2022, 1)
	second     = quarter(2022, 2)
	noQuarters = []api.Period{
		{}, month(2022, 1), month(2022, 4), year(2022), quarter(2022, 0), quarter(2022, 5), quarter(2022, -1), quarter(1969, 4), quarter(10000, 1), quarter(math.MinInt, 1),
		{Kind: 4, Year: 2022, Index: 1}, {Kind: 0, Year: 2022, Index: 1}, {Kind: -2, Year: 2022, Index: 1}, {Kind: math.MaxInt, Year: math.MaxInt, Index: math.MinInt},
	}
	states  = []string{"FR", "AT", "EL", "", "fr", "F", "FRA", "\xff", "\x00", "IT"}
	numbers = []int{0, 1, -1, 9, 10, -10, 2000, most, -most, most + 1, math.MaxInt, math.MinInt}
)

func month(y, index int) api.Period { return api.Period{Kind: api.Month, Year: y, Index: index} }

func quarter(y, index int) api.Period { return api.Period{Kind: api.Quarter, Year: y, Index: index} }

func year(y int) api.Period { return api.Period{Kind: api.Year, Year: y, Index: 1} }

func number(n int) *big.Int { return big.NewInt(int64(n)) }

// periodsOf are all periods of years.
func periodsOf(years ...int) []api.Period {
	var l []api.Period
	for _, y := range years {
		for i := 1; i <= 12; i++ {
			l = append(l, month(y, i))
		}
		for i := 1; i <= 4; i++ {
			l = append(l, quarter(y, i))
		}
		l = append(l, year(y))
	}
	return l
}

// far is a row of what was sold at a distance.
func far(period, origin api.Period, state string, rate, base, tax int) api.Row {
	return api.Row{Period: period, Origin: origin, Sale: true, Supply: api.Goods, Treat: api.Distance, Rate: rate, State: state, Base: base, Tax: tax}
}

// home is a row of a sale at home, without tax.
func home(period api.Period, base int) api.Row {
	return api.Row{Period: period, Origin: period, Sale: true, Supply: api.Goods, Treat: api.Home, State: "DE", Base: base}
}

// book is the book of rows.
func book(t *testing.T, l ...api.Row) *ledger.Book {
	t.Helper()
	b := ledger.New()
	if e := b.Add(l); e != api.OK {
		t.Fatal("a row that can't be added:", int(e))
	}
	return b
}

// of is Of, where no error is told.
func of(t *testing.T, b *ledger.Book, q api.Period) oss.Return {
	t.Helper()
	r, e := oss.Of(b, q)
	if e != api.OK {
		t.Fatal(q, int(e))
	}
	return r
}

// quarterOf is the quarter that has a right period's first day.
func quarterOf(p api.Period) api.Period {
	switch p.Kind {
	case api.Month:
		return quarter(p.Year, []int{1, 1, 1, 2, 2, 2, 3, 3, 3, 4, 4, 4}[p.Index-1])
	case api.Year:
		return quarter(p.Year, 1)
	}
	return p
}

// line and fix are those of the model.
type line struct {
	state     string
	rate      int
	base, tax *big.Int
}

type fix struct {
	origin api.Period
	state  string
	tax    *big.Int
}

// ofModel is Of of rows, and a quarter that is right, word for word as the document says it: one line or fix is looked for behind the other.
func ofModel(rows []api.Row, q api.Period) (oss.Return, api.Errno) {
	var lines []*line
	var fixes []*fix
	total := new(big.Int)
	for _, r := range rows {
		if r.Treat != api.Distance || quarterOf(r.Period) != q {
			continue
		}
		total.Add(total, number(r.Tax))
		origin := quarterOf(r.Origin)
		if origin == q {
			i := slices.IndexFunc(lines, func(l *line) bool { return l.state == r.State && l.rate == r.Rate })
			if i < 0 {
				i, lines = len(lines), append(lines, &line{r.State, r.Rate, new(big.Int), new(big.Int)})
			}
			lines[i].base.Add(lines[i].base, number(r.Base))
			lines[i].tax.Add(lines[i].tax, number(r.Tax))
			continue
		}
		i := slices.IndexFunc(fixes, func(f *fix) bool { return f.origin == origin && f.state == r.State })
		if i < 0 {
			i, fixes = len(fixes), append(fixes, &fix{origin, r.State, new(big.Int)})
		}
		fixes[i].tax.Add(fixes[i].tax, number(r.Tax))
	}
	return told(q, lines, fixes, total)
}

// told is a model's return, sorted.
func told(q api.Period, lines []*line, fixes []*fix, total *big.Int) (oss.Return, api.Errno) {
	sort.Slice(lines, func(i, j int) bool {
		a, c := lines[i], lines[j]
		return a.state < c.state || a.state == c.state && a.rate < c.rate
	})
	sort.Slice(fixes, func(i, j int) bool {
		a, c := fixes[i], fixes[j]
		at, against := 4*a.origin.Year+a.origin.Index, 4*c.origin.Year+c.origin.Index
		return at < against || at == against && a.state < c.state
	})
	e := api.OK
	amount := func(n *big.Int) int {
		if n.CmpAbs(number(1<<62)) > 0 {
			e = api.ErrOver
		}
		return int(n.Int64())
	}
	r := oss.Return{Quarter: q, Total: amount(total)}
	for _, l := range lines {
		r.Lines = append(r.Lines, oss.Line{State: l.state, Rate: l.rate, Base: amount(l.base), Tax: amount(l.tax)})
	}
	for _, f := range fixes {
		r.Fixes = append(r.Fixes, oss.Fix{Origin: f.origin, State: f.state, Tax: amount(f.tax)})
	}
	if e != api.OK {
		return oss.Return{}, e
	}
	return r, api.OK
}

// equal tells whether two returns are equal in all; a list without an element may be nil.
func equal(a, c oss.Return) bool {
	return a.Quarter == c.Quarter && a.Total == c.Total && slices.Equal(a.Lines, c.Lines) && slices.Equal(a.Fixes, c.Fixes)
}

// holdOf holds Of against the model, and the total against all lines' and all fixes' tax.
func holdOf(t *testing.T, rows []api.Row, b *ledger.Book, q api.Period) {
	t.Helper()
	got, e := oss.Of(b, q)
	want, x := ofModel(rows, q)
	if e != x || !equal(got, want) {
		t.Fatalf("Of %v: %v %d, not %v %d", q, got, int(e), want, int(x))
	}
	total := new(big.Int)
	for _, l := range got.Lines {
		total.Add(total, number(l.Tax))
	}
	for _, f := range got.Fixes {
		total.Add(total, number(f.Tax))
	}
	if total.Cmp(number(got.Total)) != 0 {
		t.Fatal("the total is not all tax together:", got)
	}
}

// chanceBook is a book of rows by chance that could be added, and these.
func chanceBook(chance *rand.Rand, periods []api.Period, many, top int) ([]api.Row, *ledger.Book) {
	amount := func() int { return (1 - 2*chance.Intn(2)) * int(chance.Int63n(int64(top)+1)) }
	var rows []api.Row
	b := ledger.New()
	for range many {
		r := api.Row{
			Period: periods[chance.Intn(len(periods))], Origin: periods[chance.Intn(len(periods))], Doc: states[chance.Intn(len(states))], Sale: chance.Intn(8) > 0, Supply: chance.Intn(8),
			Treat: api.Distance, Rate: chance.Intn(3)*1000 - 1000, State: states[chance.Intn(len(states))], Base: amount(), Tax: amount(), Deduct: chance.Intn(2), Mixed: chance.Intn(2) == 0,
		}
		switch chance.Intn(6) {
		case 0:
			r.Treat = chance.Intn(17)
		case 1, 2, 3:
			r.Origin = r.Period
		}
		if b.Add([]api.Row{r}) == api.OK {
			rows = append(rows, r)
		}
	}
	return rows, b
}

// P36.1: the document's examples.
func TestOfExample(t *testing.T) {
	march, april := month(2022, 3), month(2022, 4)
	b := book(t, far(march, march, "FR", 2000, 1000, 200))
	if got := of(t, b, first); !equal(got, oss.Return{Quarter: first, Lines: []oss.Line{{State: "FR", Rate: 2000, Base: 1000, Tax: 200}}, Total: 200}) {
		t.Error(got)
	}
	if got := of(t, b, second); !equal(got, oss.Return{Quarter: second}) {
		t.Error(got)
	}
	b = book(t, far(april, march, "FR", 2000, 1000, 200))
	if got := of(t, b, first); !equal(got, oss.Return{Quarter: first}) {
		t.Error(got)
	}
	if got := of(t, b, second); !equal(got, oss.Return{Quarter: second, Fixes: []oss.Fix{{Origin: first, State: "FR", Tax: 200}}, Total: 200}) {
		t.Error(got)
	}
}

// P36.1: lines are for each State and Rate, fixes for each quarter and State, whatever their rates; both are sorted.
func TestOfLines(t *testing.T) {
	late := month(2022, 5)
	b := book(t,
		far(late, late, "FR", 2000, 1000, 200), far(late, month(2022, 4), "FR", 550, 100, 6), far(month(2022, 6), month(2022, 6), "FR", 2000, -10, -2), far(late, late, "AT", 2000, 7, 1),
		far(late, month(2022, 3), "FR", 2000, 50, 10), far(late, month(2022, 1), "FR", 550, 50, 3), far(late, month(2021, 12), "FR", 550, 20, 1), far(late, month(2022, 2), "AT", 2000, 30, 6),
		far(late, month(2022, 7), "AT", 2000, 30, 5), far(late, late, "AT", 1000, 9, 1), far(month(2022, 7), month(2022, 7), "FR", 2000, 1, 1), far(month(2023, 5), month(2023, 5), "FR", 2000, 1, 1),
		home(late, 4000), far(late, late, "IT", 2200, 0, 0), far(month(2021, 5), late, "FR", 2000, 1, 1),
	)
	want := oss.Return{
		Quarter: second,
		Lines:   []oss.Line{{State: "AT", Rate: 1000, Base: 9, Tax: 1}, {State: "AT", Rate: 2000, Base: 7, Tax: 1}, {State: "FR", Rate: 550, Base: 100, Tax: 6}, {State: "FR", Rate: 2000, Base: 990, Tax: 198}, {State: "IT", Rate: 2200}},
		Fixes:   []oss.Fix{{Origin: quarter(2021, 4), State: "FR", Tax: 1}, {Origin: first, State: "AT", Tax: 6}, {Origin: first, State: "FR", Tax: 13}, {Origin: quarter(2022, 3), State: "AT", Tax: 5}},
		Total:   231,
	}
	if got := of(t, b, second); !equal(got, want) {
		t.Error(got)
	}
}

// P36.1: what comes to 0 is still told.
func TestOfNought(t *testing.T) {
	b := book(t, far(first, first, "FR", 2000, 1000, 200), far(first, first, "FR", 2000, -1000, -200), far(first, second, "FR", 2000, 5, 1), far(first, second, "FR", 2000, -5, -1))
	want := oss.Return{Quarter: first, Lines: []oss.Line{{State: "FR", Rate: 2000}}, Fixes: []oss.Fix{{Origin: second, State: "FR"}}}
	if got := of(t, b, first); !equal(got, want) {
		t.Error(got)
	}
}

// P36.1: of all treatments and both sides those that are Distance.
func TestOfTreatments(t *testing.T) {
	for treat := -1; treat <= 16; treat++ {
		for _, isSale := range []bool{false, true} {
			r := api.Row{Period: first, Origin: first, Sale: isSale, Treat: treat, Rate: 2000, State: "FR", Base: 1000, Tax: 200}
			got := of(t, book(t, r), first)
			if is := len(got.Lines) == 1 && got.Total == 200; is != (treat == 8) || len(got.Fixes) > 0 {
				t.Error(treat, isSale, got)
			}
		}
	}
}

// P36.1: a row counts in the quarter that has its Period's first day, and belongs to that of its Origin: all periods of three years, and of the first and the last one.
func TestOfQuarters(t *testing.T) {
	for _, periods := range [][]api.Period{periodsOf(2021, 2022, 2023), periodsOf(api.MinYear, api.MaxYear)} {
		for _, period := range periods {
			for _, origin := range periods {
				rows := []api.Row{far(period, origin, "FR", 2000, 1000, 200)}
				b := book(t, rows...)
				for _, q := range periods {
					if q.Kind == api.Quarter {
						holdOf(t, rows, b, q)
					}
				}
			}
		}
	}
}

// P36.1: late rows whose periods are in one quarter stand in its lines, not in fixes.
func TestOfLateWithin(t *testing.T) {
	b := book(t, far(month(2022, 2), month(2022, 1), "FR", 2000, 10, 2), far(year(2022), first, "FR", 2000, 20, 4), far(month(2022, 1), year(2022), "FR", 2000, 40, 8))
	if got := of(t, b, first); !equal(got, oss.Return{Quarter: first, Lines: []oss.Line{{State: "FR", Rate: 2000, Base: 70, Tax: 14}}, Total: 14}) {
		t.Error(got)
	}
}

// tooMuch are rows of which in a quarter one sum alone is no amount.
func tooMuch() map[string][]api.Row {
	january, february, march := month(2022, 1), month(2022, 2), month(2022, 3)
	past, future := month(2021, 12), month(2023, 1)
	back := far(future, future, "FR", 2000, 1, -1) // elsewhere: it brings back what the book comes to
	return map[string][]api.Row{
		"a line's Base": {far(january, january, "FR", 2000, most, 0), home(january, -most), far(february, february, "FR", 2000, 1, 0)},
		"a line's Tax":  {far(january, january, "FR", 2000, -most, most), far(march, march, "AT", 2000, 1, -1), far(february, february, "FR", 2000, 1, 1), back},
		"a fix's Tax":   {far(january, past, "FR", 2000, -most, most), far(march, past, "AT", 2000, 1, -1), far(february, past, "FR", 1000, -1, 1), back},
		"the total":     {far(january, january, "FR", 2000, -most, most), far(february, past, "AT", 2000, -1, 1), back},
	}
}

// P36.1: a sum that is no amount is an error, each one alone; turned about 0 too; of no other quarter.
func TestOfOver(t *testing.T) {
	for name, rows := range tooMuch() {
		for range 2 {
			b := book(t, rows...)
			if got, e := oss.Of(b, first); e != api.ErrOver || !reflect.DeepEqual(got, oss.Return{}) {
				t.Error(name, int(e), got)
			}
			for _, q := range []api.Period{first, second, quarter(2021, 4), quarter(2023, 1)} {
				holdOf(t, rows, b, q)
			}
			of(t, b, quarter(2023, 1))
			for i, r := range rows {
				rows[i].Base, rows[i].Tax = -r.Base, -r.Tax
			}
		}
	}
}

// P36.1: what comes to too much on the way alone is no error, in whatever order.
func TestOfOnTheWay(t *testing.T) {
	january, february, march, late := month(2022, 1), month(2022, 2), month(2022, 3), month(2023, 1)
	rows := []api.Row{
		far(january, january, "FR", 2000, -most, most), far(february, february, "FR", 2000, -most, most), far(march, march, "FR", 2000, most, -most),
		far(first, late, "FR", 2000, 0, most), far(first, late, "FR", 2000, 0, -most), far(year(2022), late, "FR", 2000, 0, -most), home(january, most), far(year(2022), late, "FR", 2000, 0, 1),
	}
	want := oss.Return{Quarter: first, Lines: []oss.Line{{State: "FR", Rate: 2000, Base: -most, Tax: most}}, Fixes: []oss.Fix{{Origin: quarter(2023, 1), State: "FR", Tax: 1 - most}}, Total: 1}
	chance := rand.New(rand.NewSource(361))
	for range 50 {
		chance.Shuffle(len(rows), func(i, j int) { rows[i], rows[j] = rows[j], rows[i] })
		b := book(t, rows...)
		holdOf(t, rows, b, first)
		if got := of(t, b, first); !equal(got, want) {
			t.Fatal(got)
		}
	}
}

// P36.1: the errors, each ahead of those behind it: nil, or a book that no call made; what is no quarter; a sum.
func TestOfErrors(t *testing.T) {
	over := book(t, tooMuch()["the total"]...)
	for _, b := range []*ledger.Book{nil, {}} {
		for _, q := range append([]api.Period{first, second}, noQuarters...) {
			if got, e := oss.Of(b, q); e != api.ErrNil || !reflect.DeepEqual(got, oss.Return{}) {
				t.Error(q, int(e), got)
			}
		}
	}
	for _, b := range []*ledger.Book{over, ledger.New(), book(t, far(month(2022, 1), year(2022), "FR", 2000, 1, 1))} {
		for _, q := range noQuarters {
			if got, e := oss.Of(b, q); e != api.ErrArg || !reflect.DeepEqual(got, oss.Return{}) {
				t.Error(q, int(e), got)
			}
		}
	}
	if _, e := oss.Of(over, first); e != api.ErrOver {
		t.Error(int(e))
	}
	for _, q := range []api.Period{quarter(api.MinYear, 1), first, second, quarter(api.MaxYear, 4)} {
		if got := of(t, ledger.New(), q); !equal(got, oss.Return{Quarter: q}) {
			t.Error(got)
		}
	}
}

// P36.1, P36.4: Of is the model's, over rows by chance.
func TestOfByChance(t *testing.T) {
	chance := rand.New(rand.NewSource(362))
	many := [][]api.Period{periodsOf(2022), periodsOf(2021, 2022), append(periodsOf(api.MinYear, api.MaxYear), periodsOf(2021, 2022, 2023)...)}
	for range 300 {
		periods := many[chance.Intn(len(many))]
		rows, b := chanceBook(chance, periods, chance.Intn(150), []int{1, 1000, most / 8, most}[chance.Intn(4)])
		for _, q := range periods {
			if q.Kind == api.Quarter {
				holdOf(t, rows, b, q)
			}
		}
	}
}

// P36.1: in which order rows came is nothing, nor is how often it is asked.
func TestOfOrder(t *testing.T) {
	chance := rand.New(rand.NewSource(363))
	rows, b := chanceBook(chance, periodsOf(2021, 2022), 300, 1000)
	for range 100 {
		chance.Shuffle(len(rows), func(i, j int) { rows[i], rows[j] = rows[j], rows[i] })
		for _, q := range []api.Period{first, second} {
			if a, c := of(t, b, q), of(t, book(t, rows...), q); !equal(a, c) || !oss.Same(a, c) || oss.Text(a) != oss.Text(c) {
				t.Fatal(a, c)
			}
		}
	}
}

// P36.4: the totals of all quarters are what AccOss was posted by sales.
func TestTotals(t *testing.T) {
	chance := rand.New(rand.NewSource(364))
	for range 50 {
		var rows []api.Row
		all, _ := chanceBook(chance, periodsOf(2021, 2022), 200, 1000)
		for _, r := range all {
			if r.Sale {
				rows = append(rows, r)
			}
		}
		b := book(t, rows...)
		total := 0
		for _, q := range periodsOf(2021, 2022) {
			if q.Kind == api.Quarter {
				total += of(t, b, q).Total
			}
		}
		if total != -b.Account(api.AccOss) {
			t.Fatal(total, b.Account(api.AccOss))
		}
	}
}

// P36.2: the states of lines and fixes, sorted, each once.
func TestStates(t *testing.T) {
	for _, c := range []struct {
		lines, fixes []string
		want         string
	}{
		{nil, nil, ""}, {[]string{"FR"}, nil, "FR"}, {nil, []string{"FR"}, "FR"}, {[]string{"FR"}, []string{"FR"}, "FR"}, {[]string{"FR", "AT", "FR"}, []string{"IT", "AT", "BE"}, "AT BE FR IT"},
		{[]string{"b", "a"}, []string{"B", "A"}, "A B a b"}, {[]string{"FRA", "F"}, []string{"FR", "\xff", "\x01"}, "\x01 F FR FRA \xff"}, {[]string{"IT"}, []string{"AT"}, "AT IT"},
	} {
		var r oss.Return
		for _, s := range c.lines {
			r.Lines = append(r.Lines, oss.Line{State: s})
		}
		for _, s := range c.fixes {
			r.Fixes = append(r.Fixes, oss.Fix{State: s})
		}
		got := oss.States(r)
		if strings.Join(got, " ") != c.want || len(got) != len(strings.Fields(c.want)) {
			t.Errorf("%q", got)
		}
		if got := oss.States(oss.Return{Lines: append(r.Lines, oss.Line{}, oss.Line{})}); len(got) == 0 || got[0] != "" || slices.Contains(got[1:], "") {
			t.Errorf("%q", got)
		}
	}
}

// P36.2: States is the model's, of what Of told.
func TestStatesByChance(t *testing.T) {
	chance := rand.New(rand.NewSource(365))
	for range 200 {
		_, b := chanceBook(chance, periodsOf(2022), chance.Intn(20), 1000)
		r := of(t, b, first)
		var want []string
		for _, s := range []string{"", "\x00", "AT", "EL", "F", "FR", "FRA", "IT", "fr", "\xff"} {
			if slices.ContainsFunc(r.Lines, func(l oss.Line) bool { return l.State == s }) || slices.ContainsFunc(r.Fixes, func(f oss.Fix) bool { return f.State == s }) {
				want = append(want, s)
			}
		}
		if got := oss.States(r); !slices.Equal(got, want) {
			t.Fatalf("%q, not %q", got, want)
		}
	}
}

// full is a return in which nothing is nought.
func full() oss.Return {
	return oss.Return{
		Quarter: first, Total: 77,
		Lines: []oss.Line{{State: "AT", Rate: 1, Base: 2, Tax: 3}, {State: "FR", Rate: 4, Base: 5, Tax: 6}},
		Fixes: []oss.Fix{{Origin: second, State: "AT", Tax: 7}, {Origin: quarter(2021, 1), State: "FR", Tax: 8}},
	}
}

// P36.2: returns are the same, if all is, line by line.
func TestSame(t *testing.T) {
	if !oss.Same(full(), full()) || !oss.Same(oss.Return{}, oss.Return{}) {
		t.Error("not the same")
	}
	for i, change := range []func(r *oss.Return){
		func(r *oss.Return) { r.Quarter.Kind++ }, func(r *oss.Return) { r.Quarter.Year++ }, func(r *oss.Return) { r.Quarter.Index++ }, func(r *oss.Return) { r.Total++ },
		func(r *oss.Return) { r.Lines = nil }, func(r *oss.Return) { r.Lines = r.Lines[:1] }, func(r *oss.Return) { r.Lines = r.Lines[1:] }, func(r *oss.Return) { r.Lines = append(r.Lines, oss.Line{}) },
		func(r *oss.Return) { slices.Reverse(r.Lines) }, func(r *oss.Return) { r.Lines[0].State = "FR" }, func(r *oss.Return) { r.Lines[1].Rate++ }, func(r *oss.Return) { r.Lines[0].Base++ },
		func(r *oss.Return) { r.Lines[1].Tax++ }, func(r *oss.Return) { r.Lines[1].Base, r.Lines[1].Tax = 6, 5 },
		func(r *oss.Return) { r.Fixes = nil }, func(r *oss.Return) { r.Fixes = r.Fixes[:1] }, func(r *oss.Return) { r.Fixes = r.Fixes[1:] }, func(r *oss.Return) { r.Fixes = append(r.Fixes, oss.Fix{}) },
		func(r *oss.Return) { slices.Reverse(r.Fixes) }, func(r *oss.Return) { r.Fixes[0].Origin.Kind++ }, func(r *oss.Return) { r.Fixes[1].Origin.Year++ }, func(r *oss.Return) { r.Fixes[0].Origin.Index++ },
		func(r *oss.Return) { r.Fixes[1].State = "at" }, func(r *oss.Return) { r.Fixes[1].Tax = -8 }, func(r *oss.Return) { *r = oss.Return{} },
	} {
		c := full()
		change(&c)
		if oss.Same(full(), c) || oss.Same(c, full()) || !oss.Same(c, c) {
			t.Error(i)
		}
	}
}

// P36.2: a list without an element may be nil or empty; what lies behind a list's length is nothing.
func TestSpareRoom(t *testing.T) {
	r := full()
	r.Lines, r.Fixes = r.Lines[:1], r.Fixes[:1]
	c := full()
	c.Lines, c.Fixes = c.Lines[:1:1], c.Fixes[:1:1]
	c2 := full()
	c2.Lines[1], c2.Fixes[1] = oss.Line{State: "x"}, oss.Fix{State: "y"}
	c2.Lines, c2.Fixes = c2.Lines[:1], c2.Fixes[:1]
	empty := full()
	empty.Lines, empty.Fixes = empty.Lines[:0], empty.Fixes[:0]
	for _, p := range [][2]oss.Return{{r, c}, {r, c2}, {empty, {Quarter: first, Total: 77}}, {{Lines: []oss.Line{}}, {Fixes: []oss.Fix{}}}} {
		if !oss.Same(p[0], p[1]) || !oss.Same(p[1], p[0]) || oss.Text(p[0]) != oss.Text(p[1]) || !slices.Equal(oss.States(p[0]), oss.States(p[1])) {
			t.Error(p)
		}
	}
	if !slices.Equal(r.Lines[:2], full().Lines) || !slices.Equal(r.Fixes[:2], full().Fixes) || !slices.Equal(c2.Lines[:2], []oss.Line{full().Lines[0], {State: "x"}}) {
		t.Error("spare room was written to")
	}
}

// P36.3: the lines of a return.
func TestText(t *testing.T) {
	for _, c := range []struct {
		r    oss.Return
		want string
	}{
		{full(), "oss Q2022-1\nAT 1 2 3\nFR 4 5 6\nfix Q2022-2 AT 7\nfix Q2021-1 FR 8\ntotal 77\n"},
		{oss.Return{Quarter: quarter(9999, 4)}, "oss Q9999-4\ntotal 0\n"}, {oss.Return{}, "oss 0-0\ntotal 0\n"},
		{oss.Return{Quarter: year(2022), Fixes: []oss.Fix{{Origin: month(1970, 12), Tax: -1}}, Total: -1}, "oss Y2022-1\nfix M1970-12  -1\ntotal -1\n"},
		{oss.Return{Quarter: api.Period{Kind: 4, Year: -1, Index: -2}, Lines: []oss.Line{{}, {State: "a b", Rate: -1, Base: -2, Tax: -3}}}, "oss -1--2\n 0 0 0\na b -1 -2 -3\ntotal 0\n"},
	} {
		if got := oss.Text(c.r); got != c.want {
			t.Errorf("%q", got)
		}
	}
	march := month(2022, 3)
	if got := oss.Text(of(t, book(t, far(march, march, "FR", 2000, 1000, 200)), first)); got != "oss Q2022-1\nFR 2000 1000 200\ntotal 200\n" {
		t.Errorf("%q", got)
	}
}

// P36.3: Text is the model's, of words and numbers by chance in their whole range.
func TestTextByChance(t *testing.T) {
	chance := rand.New(rand.NewSource(366))
	n := func() int { return numbers[chance.Intn(len(numbers))] }
	periods := periodsOf(1970, 2022, 9999)
	period := func() (api.Period, string) {
		p := periods[chance.Intn(len(periods))]
		return p, fmt.Sprintf("%c%d-%d", "MQY"[p.Kind-1], p.Year, p.Index)
	}
	for range 1000 {
		q, word := period()
		r := oss.Return{Quarter: q, Total: n()}
		want := "oss " + word + "\n"
		for range chance.Intn(4) {
			l := oss.Line{State: states[chance.Intn(len(states))], Rate: n(), Base: n(), Tax: n()}
			r.Lines = append(r.Lines, l)
			want += fmt.Sprintf("%s %d %d %d\n", l.State, l.Rate, l.Base, l.Tax)
		}
		for range chance.Intn(4) {
			p, word := period()
			f := oss.Fix{Origin: p, State: states[chance.Intn(len(states))], Tax: n()}
			r.Fixes = append(r.Fixes, f)
			want += fmt.Sprintf("fix %s %s %d\n", word, f.State, f.Tax)
		}
		want += fmt.Sprintf("total %d\n", r.Total)
		if got := oss.Text(r); got != want {
			t.Fatalf("%q, not %q", got, want)
		}
	}
}

// P36.1, P36.2: asking changes nothing, and what was told stays as it was.
func TestNothingChanges(t *testing.T) {
	rows, b := chanceBook(rand.New(rand.NewSource(367)), periodsOf(2021, 2022), 200, 1000)
	told := of(t, b, first)
	lines, fixes, text := slices.Clone(told.Lines), slices.Clone(told.Fixes), oss.Text(told)
	slices.Reverse(told.Lines) // so that it is not sorted
	slices.Reverse(told.Fixes)
	oss.States(told)
	slices.Reverse(told.Lines)
	slices.Reverse(told.Fixes)
	var kept []api.Row
	for _, r := range b.All() {
		kept = append(kept, r)
	}
	if !slices.Equal(kept, rows) {
		t.Error("what is kept changed")
	}
	if e := b.Add([]api.Row{far(first, first, "AT", 1, 1, 1), far(first, second, "AT", 1, 1, 1)}); e != api.OK {
		t.Fatal(int(e))
	}
	of(t, b, first)
	if !slices.Equal(told.Lines, lines) || !slices.Equal(told.Fixes, fixes) || oss.Text(told) != text {
		t.Error("what was told changed")
	}
}
