package recap_test

import (
	"fmt"
	"math"
	"math/big"
	"math/rand"
	"reflect"
	"slices"
	"sort"
	"testing"

	"octroi/api"
	"octroi/ledger"
	"octroi/recap"
)

const most = api.MaxMoney

var (
	january   = month(2022, 1)
	february  = month(2022, 2)
	noPeriods = []api.Period{
		{}, month(2022, 0), month(2022, 13), month(2022, -1), quarter(2022, 0), quarter(2022, 5), {Kind: api.Year, Year: 2022}, {Kind: api.Year, Year: 2022, Index: 2}, month(1969, 12), month(10000, 1),
		{Kind: 4, Year: 2022, Index: 1}, {Kind: 0, Year: 2022, Index: 1}, {Kind: -1, Year: 2022, Index: 1}, {Kind: math.MaxInt, Year: math.MinInt, Index: math.MaxInt},
	}
	parties = []string{"FR1", "FR2", "AT1", "", "FR", "fr1", "FR11", "\xff", "\x00", "ELx y"}
	numbers = []int{0, 1, -1, 9, 10, -10, 1000, most, -most, most + 1, -most - 1, math.MaxInt, math.MinInt}
)

func month(y, index int) api.Period { return api.Period{Kind: api.Month, Year: y, Index: index} }

func quarter(y, index int) api.Period { return api.Period{Kind: api.Quarter, Year: y, Index: index} }

func year(y int) api.Period { return api.Period{Kind: api.Year, Year: y, Index: 1} }

func number(n int) *big.Int { return big.NewInt(int64(n)) }

// periodsOf are all periods of years.
func periodsOf(years ...int) []api.Period {
	var l []api.Period
	for _, y := range years {
		for i := 1; i <= 12; i++ {
			l = append(l, month(y, i))
		}
		for i := 1; i <= 4; i++ {
			l = append(l, quarter(y, i))
		}
		l = append(l, year(y))
	}
	return l
}

// goods is a row of goods that were sold to a business in another member state.
func goods(period, origin api.Period, party string, base int) api.Row {
	return api.Row{Period: period, Origin: origin, Sale: true, Supply: api.Goods, Treat: api.Intra, Party: party, Base: base}
}

// service is a row of a service that was sold to one.
func service(period, origin api.Period, party string, base int) api.Row {
	return api.Row{Period: period, Origin: origin, Sale: true, Supply: api.Service, Treat: api.Reverse, Party: party, Base: base}
}

// home is a row of a sale at home: it is not listed.
func home(period api.Period, base int) api.Row {
	return api.Row{Period: period, Origin: period, Sale: true, Supply: api.Goods, Treat: api.Home, State: "DE", Party: "FR1", Base: base}
}

// fixOf is a fix.
func fixOf(origin api.Period, party string, isGoods bool, base int) recap.Fix {
	return recap.Fix{Origin: origin, Line: recap.Line{Party: party, Goods: isGoods, Base: base}}
}

// book is the book of rows.
func book(t *testing.T, l ...api.Row) *ledger.Book {
	t.Helper()
	b := ledger.New()
	if e := b.Add(l); e != api.OK {
		t.Fatal("a row that can't be added:", int(e))
	}
	return b
}

// of is Of, where no error is told.
func of(t *testing.T, b *ledger.Book, p api.Period) recap.Statement {
	t.Helper()
	s, e := recap.Of(b, p)
	if e != api.OK {
		t.Fatal(p, int(e))
	}
	return s
}

// firstDay is a number that grows as the first days of right periods do.
func firstDay(p api.Period) int {
	return 12*p.Year + (p.Index-1)*[]int{0, 1, 3, 12}[p.Kind]
}

// entry is a line or a fix of the model.
type entry struct {
	late   bool
	origin api.Period
	party  string
	goods  bool
	base   *big.Int
}

// isAhead tells which of two entries stands first, word for word as the document says it; lines stand ahead of fixes.
func (a entry) isAhead(c entry) bool {
	if a.late != c.late {
		return c.late
	}
	if a.late {
		if at, against := firstDay(a.origin), firstDay(c.origin); at != against {
			return at < against
		}
		if a.origin.Kind != c.origin.Kind {
			return a.origin.Kind < c.origin.Kind
		}
	}
	if a.party != c.party {
		return a.party < c.party
	}
	return a.goods && !c.goods
}

// ofModel is Of of rows, and a period that is right: one line or fix is looked for behind the other.
func ofModel(rows []api.Row, p api.Period) (recap.Statement, api.Errno) {
	var l []entry
	for _, r := range rows {
		if !r.Sale || r.Period != p || r.Treat != 4 && r.Treat != 6 {
			continue
		}
		at := slices.IndexFunc(l, func(n entry) bool {
			return n.origin == r.Origin && n.party == r.Party && n.goods == (r.Treat == 4)
		})
		if at < 0 {
			at, l = len(l), append(l, entry{r.Origin != r.Period, r.Origin, r.Party, r.Treat == 4, new(big.Int)})
		}
		l[at].base.Add(l[at].base, number(r.Base))
	}
	sort.Slice(l, func(i, j int) bool { return l[i].isAhead(l[j]) })
	s := recap.Statement{Period: p}
	for _, n := range l {
		if n.base.CmpAbs(number(1<<62)) > 0 {
			return recap.Statement{}, api.ErrOver
		}
		line := recap.Line{Party: n.party, Goods: n.goods, Base: int(n.base.Int64())}
		if n.late {
			s.Fixes = append(s.Fixes, recap.Fix{Origin: n.origin, Line: line})
			continue
		}
		s.Lines = append(s.Lines, line)
	}
	return s, api.OK
}

// totalModel is Total.
func totalModel(s recap.Statement) (int, api.Errno) {
	var bases []int
	for _, l := range s.Lines {
		bases = append(bases, l.Base)
	}
	for _, f := range s.Fixes {
		bases = append(bases, f.Line.Base)
	}
	sum, limit := new(big.Int), number(1<<62)
	for _, base := range bases {
		if number(base).CmpAbs(limit) > 0 {
			return 0, api.ErrArg
		}
		sum.Add(sum, number(base))
	}
	if sum.CmpAbs(limit) > 0 {
		return 0, api.ErrOver
	}
	return int(sum.Int64()), api.OK
}

// equal tells whether two statements are equal in all; a list without an element may be nil.
func equal(a, c recap.Statement) bool {
	return a.Period == c.Period && slices.Equal(a.Lines, c.Lines) && slices.Equal(a.Fixes, c.Fixes)
}

// holdOf holds Of against the model, and the total against the Base of all rows that are listed.
func holdOf(t *testing.T, rows []api.Row, b *ledger.Book, p api.Period) {
	t.Helper()
	got, e := recap.Of(b, p)
	want, x := ofModel(rows, p)
	if e != x || !equal(got, want) {
		t.Fatalf("Of %v: %v %d, not %v %d", p, got, int(e), want, int(x))
	}
	if e != api.OK {
		return
	}
	listed := new(big.Int)
	for _, r := range rows {
		if r.Sale && r.Period == p && (r.Treat == 4 || r.Treat == 6) {
			listed.Add(listed, number(r.Base))
		}
	}
	total, e := recap.Total(got)
	if isOver := listed.CmpAbs(number(1<<62)) > 0; isOver != (e == api.ErrOver) || !isOver && (e != api.OK || listed.Cmp(number(total)) != 0) {
		t.Fatal("the total is not the Base of all rows that are listed:", got, total, int(e), listed)
	}
}

// chanceBook is a book of rows by chance that could be added, and these.
func chanceBook(chance *rand.Rand, periods []api.Period, many, top int) ([]api.Row, *ledger.Book) {
	amount := func() int { return (1 - 2*chance.Intn(2)) * int(chance.Int63n(int64(top)+1)) }
	var rows []api.Row
	b := ledger.New()
	for range many {
		r := api.Row{
			Period: periods[chance.Intn(len(periods))], Origin: periods[chance.Intn(len(periods))], Doc: parties[chance.Intn(len(parties))], Sale: chance.Intn(8) > 0, Supply: chance.Intn(8),
			Treat: []int{api.Intra, api.Reverse}[chance.Intn(2)], Rate: chance.Intn(3), State: parties[chance.Intn(len(parties))], Party: parties[chance.Intn(len(parties))],
			Base: amount(), Tax: amount(), Deduct: chance.Intn(2), Mixed: chance.Intn(2) == 0,
		}
		switch chance.Intn(6) {
		case 0:
			r.Treat = chance.Intn(17)
		case 1, 2, 3:
			r.Origin = r.Period
		}
		if b.Add([]api.Row{r}) == api.OK {
			rows = append(rows, r)
		}
	}
	return rows, b
}

// P37.1: the document's example.
func TestOfExample(t *testing.T) {
	b := book(t, goods(january, january, "FR1", 1000))
	got := of(t, b, january)
	if !equal(got, recap.Statement{Period: january, Lines: []recap.Line{{Party: "FR1", Goods: true, Base: 1000}}}) {
		t.Error(got)
	}
	if text := recap.Text(got); text != "recap M2022-1\nFR1 G 1000\n" {
		t.Errorf("%q", text)
	}
	if got := of(t, b, february); !equal(got, recap.Statement{Period: february}) {
		t.Error(got)
	}
}

// P37.1: lines are for each Party, goods ahead of others; fixes for each Origin, Party and goods or others; both are sorted; rows of other periods, and those that are not listed, are none of them.
func TestOfLines(t *testing.T) {
	march := month(2022, 3)
	b := book(t,
		service(march, march, "FR1", 10), goods(march, march, "FR1", 20), goods(march, march, "AT9", 5), service(march, march, "FR1", 1), goods(march, march, "FR1", -2), service(march, march, "AT", 4),
		service(march, february, "FR1", 100), goods(march, february, "FR1", 200), goods(march, february, "AT9", 300), service(march, february, "FR1", 1), goods(march, january, "FR1", 400),
		goods(march, quarter(2022, 1), "FR1", 500), goods(march, year(2022), "AT9", 600), goods(march, month(2021, 12), "FR2", 700), goods(march, month(2022, 4), "AT9", 800), service(march, quarter(2022, 1), "AT9", 900),
		goods(february, march, "FR1", 7), goods(quarter(2022, 1), march, "FR1", 7), goods(quarter(2022, 1), quarter(2022, 1), "FR1", 7), goods(month(2023, 3), month(2023, 3), "FR1", 7), home(march, 4000),
		api.Row{Period: march, Origin: march, Treat: api.Acquisition, Party: "FR1", Base: 9}, goods(march, march, "", 3),
	)
	want := recap.Statement{
		Period: march,
		Lines:  []recap.Line{{Party: "", Goods: true, Base: 3}, {Party: "AT", Base: 4}, {Party: "AT9", Goods: true, Base: 5}, {Party: "FR1", Goods: true, Base: 18}, {Party: "FR1", Base: 11}},
		Fixes: []recap.Fix{
			fixOf(month(2021, 12), "FR2", true, 700), fixOf(january, "FR1", true, 400), fixOf(quarter(2022, 1), "AT9", false, 900), fixOf(quarter(2022, 1), "FR1", true, 500), fixOf(year(2022), "AT9", true, 600),
			fixOf(february, "AT9", true, 300), fixOf(february, "FR1", true, 200), fixOf(february, "FR1", false, 101), fixOf(month(2022, 4), "AT9", true, 800),
		},
	}
	if got := of(t, b, march); !equal(got, want) {
		t.Error(got)
	}
}

// P37.1: what comes to 0 is still told.
func TestOfNought(t *testing.T) {
	b := book(t, goods(january, january, "FR1", 10), goods(january, january, "FR1", -10), service(january, february, "FR1", 7), service(january, february, "FR1", -7), goods(january, january, "AT1", 0))
	want := recap.Statement{Period: january, Lines: []recap.Line{{Party: "AT1", Goods: true}, {Party: "FR1", Goods: true}}, Fixes: []recap.Fix{fixOf(february, "FR1", false, 0)}}
	if got := of(t, b, january); !equal(got, want) {
		t.Error(got)
	}
}

// P37.1: of all treatments, both sides, and each supply, the sales that are Intra, which are goods, or Reverse, which are others.
func TestOfTreatments(t *testing.T) {
	for treat := -1; treat <= 16; treat++ {
		for supply := -1; supply <= 8; supply++ {
			for _, isSale := range []bool{false, true} {
				for _, origin := range []api.Period{january, february} {
					rows := []api.Row{{Period: january, Origin: origin, Sale: isSale, Supply: supply, Treat: treat, Party: "FR1", Base: 1000, Tax: 5, Mixed: supply%2 == 0}}
					b := book(t, rows...)
					holdOf(t, rows, b, january)
					holdOf(t, rows, b, february)
					s := of(t, b, january)
					if is := len(s.Lines)+len(s.Fixes) == 1; is != (isSale && (treat == 4 || treat == 6)) {
						t.Error(treat, supply, isSale, s)
					}
				}
			}
		}
	}
}

// P37.1: a row is a line's, or a fix's, of its Period alone, whichever days that has in common with others: all periods of two years, and of the first and the last one.
func TestOfPeriods(t *testing.T) {
	for _, periods := range [][]api.Period{periodsOf(2021, 2022), periodsOf(api.MinYear, api.MaxYear)} {
		for _, period := range periods {
			var rows []api.Row
			for i, origin := range periods {
				rows = append(rows, goods(period, origin, "FR1", 1+i))
			}
			b := book(t, rows...)
			for _, p := range periods {
				holdOf(t, rows, b, p)
				if s := of(t, b, p); p == period && (len(s.Lines) != 1 || len(s.Fixes) != len(periods)-1) {
					t.Fatal(s)
				}
			}
		}
	}
}

// tooMuch are rows of which in January one sum alone is no amount.
func tooMuch() map[string][]api.Row {
	return map[string][]api.Row{
		"a line of goods":  {goods(january, january, "FR1", most), home(january, -most), goods(january, january, "FR1", 1), goods(january, january, "AT1", -1)},
		"a line of others": {service(january, january, "FR1", most), home(february, -most), service(january, january, "FR1", 1)},
		"a fix":            {goods(january, february, "FR1", most), home(february, -most), goods(january, january, "FR1", -1), goods(january, february, "FR1", 1)},
		"a fix of others":  {service(january, year(2022), "FR1", most), home(january, -most), service(january, year(2022), "FR1", 1)},
	}
}

// P37.1: a sum that is no amount is an error, each one alone; turned about 0 too; of no other period.
func TestOfOver(t *testing.T) {
	for name, rows := range tooMuch() {
		for range 2 {
			b := book(t, rows...)
			if got, e := recap.Of(b, january); e != api.ErrOver || !reflect.DeepEqual(got, recap.Statement{}) {
				t.Error(name, int(e), got)
			}
			for _, p := range []api.Period{january, february, quarter(2022, 1), year(2022)} {
				holdOf(t, rows, b, p)
			}
			of(t, b, february)
			for i := range rows {
				rows[i].Base = -rows[i].Base
			}
		}
	}
}

// P37.1, P37.2: sums that are amounts each, and none together, are no error of Of, but of Total.
func TestOfTotalOver(t *testing.T) {
	for _, rows := range [][]api.Row{
		{goods(january, january, "FR1", most), home(january, -most), goods(january, january, "FR2", 1)},
		{goods(january, january, "FR1", most), home(january, -most), service(january, january, "FR1", most)},
		{goods(january, january, "FR1", -most), home(january, most), goods(january, february, "FR1", -1)},
		{service(january, february, "FR1", most), home(january, -most), service(january, quarter(2022, 1), "FR1", 1)},
	} {
		b := book(t, rows...)
		holdOf(t, rows, b, january)
		if n, e := recap.Total(of(t, b, january)); n != 0 || e != api.ErrOver {
			t.Error(n, int(e))
		}
	}
}

// P37.1: what comes to too much on the way alone is no error, in whatever order.
func TestOfOnTheWay(t *testing.T) {
	rows := []api.Row{
		goods(january, january, "FR1", most), goods(january, january, "FR1", most), goods(january, january, "FR1", -most), home(january, -most), service(january, february, "FR1", most),
		service(january, february, "FR1", 1), service(january, february, "FR1", -2), home(february, -most),
	}
	want := recap.Statement{Period: january, Lines: []recap.Line{{Party: "FR1", Goods: true, Base: most}}, Fixes: []recap.Fix{fixOf(february, "FR1", false, most-1)}}
	chance := rand.New(rand.NewSource(371))
	for range 50 {
		chance.Shuffle(len(rows), func(i, j int) { rows[i], rows[j] = rows[j], rows[i] })
		b := book(t, rows...)
		holdOf(t, rows, b, january)
		if got := of(t, b, january); !equal(got, want) {
			t.Fatal(got)
		}
	}
}

// P37.1: the errors, each ahead of those behind it: nil, or a book that no call made; what is no period; a sum.
func TestOfErrors(t *testing.T) {
	over := book(t, tooMuch()["a fix"]...)
	for _, b := range []*ledger.Book{nil, {}} {
		for _, p := range append([]api.Period{january, quarter(2022, 1)}, noPeriods...) {
			if got, e := recap.Of(b, p); e != api.ErrNil || !reflect.DeepEqual(got, recap.Statement{}) {
				t.Error(p, int(e), got)
			}
		}
	}
	for _, b := range []*ledger.Book{over, ledger.New(), book(t, goods(january, january, "FR1", 1))} {
		for _, p := range noPeriods {
			if got, e := recap.Of(b, p); e != api.ErrArg || !reflect.DeepEqual(got, recap.Statement{}) {
				t.Error(p, int(e), got)
			}
		}
	}
	if _, e := recap.Of(over, january); e != api.ErrOver {
		t.Error(int(e))
	}
	for _, p := range periodsOf(api.MinYear, 2022, api.MaxYear) {
		if got := of(t, ledger.New(), p); !equal(got, recap.Statement{Period: p}) {
			t.Error(got)
		}
	}
}

// P37.1, P37.4: Of is the model's, over rows by chance.
func TestOfByChance(t *testing.T) {
	chance := rand.New(rand.NewSource(372))
	many := [][]api.Period{{january, february, quarter(2022, 1), year(2022)}, periodsOf(2022), append(periodsOf(api.MinYear, api.MaxYear), periodsOf(2021, 2022)...)}
	for range 300 {
		periods := many[chance.Intn(len(many))]
		rows, b := chanceBook(chance, periods, chance.Intn(200), []int{1, 1000, most / 8, most}[chance.Intn(4)])
		for _, p := range periods {
			holdOf(t, rows, b, p)
		}
	}
}

// P37.1: in which order rows came is nothing, nor is how often it is asked.
func TestOfOrder(t *testing.T) {
	chance := rand.New(rand.NewSource(373))
	rows, b := chanceBook(chance, []api.Period{january, february, quarter(2022, 1), year(2022)}, 300, 1000)
	for range 100 {
		chance.Shuffle(len(rows), func(i, j int) { rows[i], rows[j] = rows[j], rows[i] })
		for _, p := range []api.Period{january, year(2022)} {
			if a, c := of(t, b, p), of(t, book(t, rows...), p); !equal(a, c) || !recap.Same(a, c) || recap.Text(a) != recap.Text(c) {
				t.Fatal(a, c)
			}
		}
	}
}

// P37.1: so many parties that no map tells them in order by chance.
func TestOfMany(t *testing.T) {
	const many = 1 << 15
	rows := make([]api.Row, 2*many)
	for i := range rows {
		rows[i] = goods(january, january, fmt.Sprintf("FR%05d", (i*7919)%many), i)
	}
	s := of(t, book(t, rows...), january)
	if len(s.Lines) != many || len(s.Fixes) != 0 {
		t.Fatal(len(s.Lines), len(s.Fixes))
	}
	for i, l := range s.Lines {
		if l.Party != fmt.Sprintf("FR%05d", i) || (l.Base-many)/2*7919%many != i {
			t.Fatal(i, l)
		}
	}
	if n, e := recap.Total(s); e != api.OK || n != many*(2*many-1) {
		t.Error(n, int(e))
	}
}

// statement is a statement of these Bases: so many of lines, the others of fixes.
func statement(lines int, bases ...int) recap.Statement {
	var s recap.Statement
	for i, base := range bases {
		if i < lines {
			s.Lines = append(s.Lines, recap.Line{Base: base})
			continue
		}
		s.Fixes = append(s.Fixes, fixOf(api.Period{}, "", false, base))
	}
	return s
}

// P37.2: all Bases together; money's errors, in their order, wherever the Bases stand.
func TestTotal(t *testing.T) {
	for _, c := range []struct {
		bases []int
		n     int
		e     api.Errno
	}{
		{nil, 0, api.OK}, {[]int{0}, 0, api.OK}, {[]int{5}, 5, api.OK}, {[]int{5, -7}, -2, api.OK}, {[]int{1, 20, 300, 4000}, 4321, api.OK}, {[]int{most}, most, api.OK}, {[]int{-most}, -most, api.OK},
		{[]int{most, 1}, 0, api.ErrOver}, {[]int{-most, -1}, 0, api.ErrOver}, {[]int{most, most, -most}, most, api.OK}, {[]int{-most, -most, most, most}, 0, api.OK}, {[]int{most, most, most, -most}, 0, api.ErrOver},
		{[]int{most + 1}, 0, api.ErrArg}, {[]int{-most - 1}, 0, api.ErrArg}, {[]int{most + 1, -1}, 0, api.ErrArg}, {[]int{most, most, math.MinInt}, 0, api.ErrArg}, {[]int{math.MaxInt, math.MinInt}, 0, api.ErrArg}, {[]int{0, most + 1, most}, 0, api.ErrArg},
	} {
		for lines := 0; lines <= len(c.bases); lines++ {
			if n, e := recap.Total(statement(lines, c.bases...)); n != c.n || e != c.e {
				t.Error(lines, c.bases, n, int(e))
			}
		}
	}
}

// P37.2: Total is the model's, of numbers by chance in their whole range.
func TestTotalByChance(t *testing.T) {
	chance := rand.New(rand.NewSource(374))
	for range 3000 {
		s := statement(chance.Intn(5))
		for range chance.Intn(4) {
			s.Lines = append(s.Lines, recap.Line{Base: numbers[chance.Intn(len(numbers)-4*chance.Intn(2))]})
		}
		for range chance.Intn(4) {
			s.Fixes = append(s.Fixes, fixOf(january, "FR1", true, numbers[chance.Intn(len(numbers)-4*chance.Intn(2))]))
		}
		n, e := recap.Total(s)
		if want, x := totalModel(s); n != want || e != x {
			t.Fatal(s, n, int(e), want, int(x))
		}
	}
}

// full is a statement in which nothing is nought.
func full() recap.Statement {
	return recap.Statement{
		Period: january,
		Lines:  []recap.Line{{Party: "AT1", Goods: true, Base: 2}, {Party: "FR1", Goods: true, Base: 5}},
		Fixes:  []recap.Fix{fixOf(february, "AT1", true, 7), fixOf(quarter(2021, 1), "FR1", true, 8)},
	}
}

// P37.2: statements are the same, if all is, line by line.
func TestSame(t *testing.T) {
	if !recap.Same(full(), full()) || !recap.Same(recap.Statement{}, recap.Statement{}) {
		t.Error("not the same")
	}
	for i, change := range []func(s *recap.Statement){
		func(s *recap.Statement) { s.Period.Kind++ }, func(s *recap.Statement) { s.Period.Year++ }, func(s *recap.Statement) { s.Period.Index++ },
		func(s *recap.Statement) { s.Lines = nil }, func(s *recap.Statement) { s.Lines = s.Lines[:1] }, func(s *recap.Statement) { s.Lines = s.Lines[1:] }, func(s *recap.Statement) { s.Lines = append(s.Lines, recap.Line{}) },
		func(s *recap.Statement) { slices.Reverse(s.Lines) }, func(s *recap.Statement) { s.Lines[0].Party = "FR1" }, func(s *recap.Statement) { s.Lines[1].Goods = false }, func(s *recap.Statement) { s.Lines[0].Base++ },
		func(s *recap.Statement) { s.Lines[1].Base = -5 }, func(s *recap.Statement) { s.Lines[0].Base, s.Lines[1].Base = 5, 2 },
		func(s *recap.Statement) { s.Fixes = nil }, func(s *recap.Statement) { s.Fixes = s.Fixes[:1] }, func(s *recap.Statement) { s.Fixes = s.Fixes[1:] }, func(s *recap.Statement) { s.Fixes = append(s.Fixes, recap.Fix{}) },
		func(s *recap.Statement) { slices.Reverse(s.Fixes) }, func(s *recap.Statement) { s.Fixes[0].Origin.Kind++ }, func(s *recap.Statement) { s.Fixes[1].Origin.Year++ }, func(s *recap.Statement) { s.Fixes[0].Origin.Index++ },
		func(s *recap.Statement) { s.Fixes[1].Party = "at" }, func(s *recap.Statement) { s.Fixes[0].Goods = false }, func(s *recap.Statement) { s.Fixes[1].Base = -8 }, func(s *recap.Statement) { *s = recap.Statement{} },
	} {
		c := full()
		change(&c)
		if recap.Same(full(), c) || recap.Same(c, full()) || !recap.Same(c, c) {
			t.Error(i)
		}
	}
}

// P37.2, P37.3: a list without an element may be nil or empty; what lies behind a list's length is nothing, and is not written to.
func TestSpareRoom(t *testing.T) {
	s, c := full(), full()
	s.Lines, s.Fixes = s.Lines[:1], s.Fixes[:1]
	c.Lines[1], c.Fixes[1] = recap.Line{Party: "x", Base: math.MinInt}, fixOf(january, "y", false, math.MaxInt)
	c.Lines, c.Fixes = c.Lines[:1], c.Fixes[:1]
	cut := full()
	cut.Lines, cut.Fixes = cut.Lines[:1:1], cut.Fixes[:1:1]
	empty := full()
	empty.Lines, empty.Fixes = empty.Lines[:0], empty.Fixes[:0]
	for _, p := range [][2]recap.Statement{{s, cut}, {s, c}, {empty, {Period: january}}, {{Lines: []recap.Line{}}, {Fixes: []recap.Fix{}}}} {
		n, e := recap.Total(p[0])
		m, x := recap.Total(p[1])
		if !recap.Same(p[0], p[1]) || !recap.Same(p[1], p[0]) || recap.Text(p[0]) != recap.Text(p[1]) || n != m || e != api.OK || x != api.OK {
			t.Error(p, n, m)
		}
	}
	if !slices.Equal(s.Lines[:2], full().Lines) || !slices.Equal(s.Fixes[:2], full().Fixes) || !slices.Equal(empty.Lines[:2], full().Lines) || c.Lines[:2][1].Party != "x" {
		t.Error("spare room was written to")
	}
}

// P37.3: the lines of a statement.
func TestText(t *testing.T) {
	for _, c := range []struct {
		s    recap.Statement
		want string
	}{
		{full(), "recap M2022-1\nAT1 G 2\nFR1 G 5\nfix M2022-2 AT1 G 7\nfix Q2021-1 FR1 G 8\n"},
		{recap.Statement{Period: quarter(9999, 4), Lines: []recap.Line{{Party: "FR1", Base: -1000}}}, "recap Q9999-4\nFR1 S -1000\n"},
		{recap.Statement{Period: year(1970), Fixes: []recap.Fix{fixOf(year(2022), "FR1", false, 0)}}, "recap Y1970-1\nfix Y2022-1 FR1 S 0\n"}, {recap.Statement{}, "recap 0-0\n"},
		{recap.Statement{Period: api.Period{Kind: 4, Year: -1, Index: -2}, Lines: []recap.Line{{}, {Party: "a b", Goods: true}}, Fixes: []recap.Fix{{}}}, "recap -1--2\n S 0\na b G 0\nfix 0-0  S 0\n"},
	} {
		if got := recap.Text(c.s); got != c.want {
			t.Errorf("%q", got)
		}
	}
	b := book(t, goods(february, february, "FR1", 1000), service(february, february, "FR1", 30), goods(february, january, "AT1", -5))
	if got := recap.Text(of(t, b, february)); got != "recap M2022-2\nFR1 G 1000\nFR1 S 30\nfix M2022-1 AT1 G -5\n" {
		t.Errorf("%q", got)
	}
}

// P37.3: Text is the model's, of words and numbers by chance in their whole range.
func TestTextByChance(t *testing.T) {
	chance := rand.New(rand.NewSource(375))
	periods := periodsOf(1970, 2022, 9999)
	period := func() (api.Period, string) {
		p := periods[chance.Intn(len(periods))]
		return p, fmt.Sprintf("%c%d-%d", "MQY"[p.Kind-1], p.Year, p.Index)
	}
	line := func() (recap.Line, string) {
		l := recap.Line{Party: parties[chance.Intn(len(parties))], Goods: chance.Intn(2) == 0, Base: numbers[chance.Intn(len(numbers))]}
		letter := map[bool]string{true: "G", false: "S"}[l.Goods]
		return l, fmt.Sprintf("%s %s %d\n", l.Party, letter, l.Base)
	}
	for range 1000 {
		p, word := period()
		s := recap.Statement{Period: p}
		want := "recap " + word + "\n"
		for range chance.Intn(4) {
			l, text := line()
			s.Lines = append(s.Lines, l)
			want += text
		}
		for range chance.Intn(4) {
			p, word := period()
			l, text := line()
			s.Fixes = append(s.Fixes, recap.Fix{Origin: p, Line: l})
			want += "fix " + word + " " + text
		}
		if got := recap.Text(s); got != want {
			t.Fatalf("%q, not %q", got, want)
		}
	}
}

// P37.1, P37.2: asking changes nothing, and what was told stays as it was.
func TestNothingChanges(t *testing.T) {
	rows, b := chanceBook(rand.New(rand.NewSource(376)), []api.Period{january, february, quarter(2022, 1)}, 200, 1000)
	told := of(t, b, january)
	lines, fixes, text := slices.Clone(told.Lines), slices.Clone(told.Fixes), recap.Text(told)
	if len(lines) == 0 || len(fixes) == 0 {
		t.Fatal("nothing is told")
	}
	recap.Total(told)
	recap.Same(told, told)
	var kept []api.Row
	for _, r := range b.All() {
		kept = append(kept, r)
	}
	if !slices.Equal(kept, rows) {
		t.Error("what is kept changed")
	}
	if e := b.Add([]api.Row{goods(january, january, "AT1", 1), goods(january, february, "AT1", 1)}); e != api.OK {
		t.Fatal(int(e))
	}
	if again := of(t, b, january); recap.Same(again, told) {
		t.Error("what was added is not told")
	}
	if !slices.Equal(told.Lines, lines) || !slices.Equal(told.Fixes, fixes) || recap.Text(told) != text {
		t.Error("what was told changed")
	}
}
