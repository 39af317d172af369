package ledger_test

import (
	"iter"
	"math"
	"math/big"
	"math/rand"
	"slices"
	"testing"

	"octroi/api"
	"octroi/civil"
	"octroi/ledger"
)

const most = api.MaxMoney

var (
	either    = []bool{false, true}
	january   = month(2022, 1)
	february  = month(2022, 2)
	noPeriods = []api.Period{
		{}, {Kind: api.Month, Year: 2022}, {Kind: api.Month, Year: 2022, Index: 13}, {Kind: api.Quarter, Year: 2022, Index: 5}, {Kind: api.Year, Year: 2022, Index: 2},
		{Kind: 4, Year: 2022, Index: 1}, {Kind: 0, Year: 2022, Index: 1}, {Kind: -1, Year: 2022, Index: 1}, {Kind: api.Month, Year: 1969, Index: 12}, {Kind: api.Month, Year: 10000, Index: 1},
		{Kind: api.Month, Year: 2022, Index: -1}, {Kind: math.MaxInt, Year: math.MinInt, Index: math.MaxInt},
	}
	periods = []api.Period{
		january, february, month(2022, 3), month(2022, 4), month(2021, 12), month(1970, 1), month(9999, 12), month(2023, 1),
		quarter(2022, 1), quarter(2022, 2), quarter(2021, 4), quarter(1970, 1), quarter(9999, 4), year(2022), year(2021), year(1970), year(9999),
	}
)

func month(y, index int) api.Period { return api.Period{Kind: api.Month, Year: y, Index: index} }

func quarter(y, index int) api.Period { return api.Period{Kind: api.Quarter, Year: y, Index: index} }

func year(y int) api.Period { return api.Period{Kind: api.Year, Year: y, Index: 1} }

func number(n int) *big.Int { return big.NewInt(int64(n)) }

func isAmount(n *big.Int) bool { return n.CmpAbs(number(1<<62)) <= 0 }

// model is a book, word for word as the document says it: it has rows, and nothing else.
type model struct{ rows []api.Row }

// together is a period's three sums, or an account's, without a bound.
type together struct{ out, in, oss *big.Int }

// owed is what a row adds to Out.
func owed(r api.Row) *big.Int {
	switch r.Treat {
	case api.Home, api.Margin, api.Below:
		if r.Sale {
			return number(r.Tax)
		}
	case api.Acquisition, api.Received, api.Import:
		return number(r.Tax)
	}
	return new(big.Int)
}

// posted is what a row posts on each account, without a bound.
func posted(r api.Row) map[int]*big.Int {
	base, tax, deduct := number(r.Base), number(r.Tax), number(r.Deduct)
	both := new(big.Int).Add(base, tax)
	turned := func(n *big.Int) *big.Int { return new(big.Int).Neg(n) }
	switch {
	case r.Sale && r.Treat == api.Distance:
		return map[int]*big.Int{api.AccParty: both, api.AccTurn: turned(base), api.AccOss: turned(tax)}
	case r.Sale:
		return map[int]*big.Int{api.AccParty: both, api.AccTurn: turned(base), api.AccOut: turned(tax)}
	case r.Treat == api.Acquisition || r.Treat == api.Received || r.Treat == api.Import:
		return map[int]*big.Int{api.AccParty: turned(base), api.AccTurn: both.Sub(both, deduct), api.AccIn: deduct, api.AccOut: turned(tax)}
	case r.Treat == api.Adjusted:
		return map[int]*big.Int{api.AccTurn: turned(deduct), api.AccIn: deduct}
	}
	return map[int]*big.Int{api.AccParty: turned(both), api.AccTurn: new(big.Int).Sub(both, deduct), api.AccIn: deduct}
}

// rowMay tells whether a row may be.
func rowMay(r api.Row) bool {
	if !civil.Good(r.Period) || !civil.Good(r.Origin) || !isAmount(number(r.Base)) || !isAmount(number(r.Tax)) || !isAmount(number(r.Deduct)) {
		return false
	}
	for _, n := range posted(r) {
		if !isAmount(n) {
			return false
		}
	}
	return true
}

// sum is a period's.
func (m *model) sum(p api.Period) together {
	s := together{new(big.Int), new(big.Int), new(big.Int)}
	for _, r := range m.rows {
		if r.Period != p {
			continue
		}
		s.out.Add(s.out, owed(r))
		s.in.Add(s.in, number(r.Deduct))
		if r.Treat == api.Distance {
			s.oss.Add(s.oss, number(r.Tax))
		}
	}
	return s
}

// account is what is posted on one.
func (m *model) account(account int) *big.Int {
	all := new(big.Int)
	for _, r := range m.rows {
		if n := posted(r)[account]; n != nil {
			all.Add(all, n)
		}
	}
	return all
}

// check is Check.
func (m *model) check(l []api.Row) api.Errno {
	for _, r := range l {
		if !rowMay(r) {
			return api.ErrArg
		}
	}
	if len(m.rows)+len(l) > 1<<20 {
		return api.ErrFull
	}
	behind := &model{slices.Concat(m.rows, l)}
	for _, r := range l {
		s := behind.sum(r.Period)
		if !isAmount(s.out) || !isAmount(s.in) || !isAmount(s.oss) {
			return api.ErrOver
		}
	}
	for account := api.AccParty; account <= api.AccOss; account++ {
		if !isAmount(behind.account(account)) {
			return api.ErrOver
		}
	}
	return api.OK
}

// order tells the Periods: from each day on, of the lowest kind first.
func (m *model) order() []api.Period {
	var l []api.Period
	for day := 0; len(l) < len(distinct(m.rows)); day++ {
		for kind := api.Month; kind <= api.Year; kind++ {
			p, _ := civil.Of(day, kind)
			if first, _ := civil.First(p); first == day && slices.Contains(distinct(m.rows), p) {
				l = append(l, p)
			}
		}
	}
	return l
}

// distinct tells the Periods of rows in any order, each once.
func distinct(rows []api.Row) []api.Period {
	var l []api.Period
	for _, r := range rows {
		if !slices.Contains(l, r.Period) {
			l = append(l, r.Period)
		}
	}
	return l
}

// listed tells what a book's All yields, if it counts from 0 on.
func listed(t *testing.T, all iter.Seq2[int, api.Row]) []api.Row {
	t.Helper()
	if all == nil {
		t.Fatal("nil")
	}
	var l []api.Row
	for i, r := range all {
		if i != len(l) {
			t.Fatal("counted", i, len(l))
		}
		l = append(l, r)
	}
	return l
}

// same asks whether a book is its model in all that its calls tell.
func same(t *testing.T, b *ledger.Book, m *model) {
	t.Helper()
	if b.Len() != len(m.rows) || !slices.Equal(listed(t, b.All()), m.rows) {
		t.Fatal("rows", b.Len(), len(m.rows))
	}
	for _, p := range slices.Concat(periods, noPeriods, distinct(m.rows)) {
		s := m.sum(p)
		if got, want := b.Sum(p), (ledger.Sum{Out: int(s.out.Int64()), In: int(s.in.Int64()), Oss: int(s.oss.Int64())}); got != want {
			t.Fatal("sum", p, got, want)
		}
		want := slices.DeleteFunc(slices.Clone(m.rows), func(r api.Row) bool { return r.Period != p })
		if got := b.Period(p); !slices.Equal(got, want) {
			t.Fatal("period", p, got, want)
		}
	}
	all := 0
	for _, account := range []int{api.AccParty, api.AccTurn, api.AccOut, api.AccIn, api.AccOss, api.AccSettle, api.AccCarry, 0, -1, 8, math.MaxInt, math.MinInt, 1<<32 + api.AccOut} {
		got := b.Account(account)
		if got != int(m.account(account).Int64()) {
			t.Fatal("account", account, got)
		}
		all += got // no sum of these leaves the type's range for good: they are 0 together
	}
	if all != 0 {
		t.Fatal("together", all)
	}
}

// add adds to a book and to its model, and asks what both tell.
func add(t *testing.T, b *ledger.Book, m *model, l []api.Row, want api.Errno) {
	t.Helper()
	for range 2 { // asking alone adds nothing
		if got := b.Check(l); got != want {
			t.Fatal("check", got, want)
		}
	}
	if got := b.Add(l); got != want {
		t.Fatal("add", got, want)
	}
	if want == api.OK {
		m.rows = append(m.rows, l...)
	}
}

// sold tells a sale at home of January.
func sold(base, tax int) api.Row {
	return api.Row{Period: january, Origin: january, Doc: "a", Sale: true, Supply: api.Goods, Treat: api.Home, Rate: 1900, State: "DE", Base: base, Tax: tax}
}

func with(r api.Row, change func(r *api.Row)) api.Row {
	change(&r)
	return r
}

// P26.1, P26.2: no rows.
func TestNew(t *testing.T) {
	b := ledger.New()
	if b == nil {
		t.Fatal("nil")
	}
	same(t, b, &model{})
	if l := b.Periods(); len(l) != 0 {
		t.Error(l)
	}
	add(t, b, &model{}, nil, api.OK)
	add(t, b, &model{}, []api.Row{}, api.OK)
	same(t, b, &model{})
	if other := ledger.New(); other == b {
		t.Error("one book")
	}
}

// P26.2: a sale at home of 1000 and 190 in January, and more rows behind it.
func TestTold(t *testing.T) {
	b, m := ledger.New(), &model{}
	add(t, b, m, []api.Row{sold(1000, 190)}, api.OK)
	if b.Sum(january) != (ledger.Sum{Out: 190}) || b.Account(api.AccOut) != -190 || b.Account(api.AccParty) != 1190 || b.Account(api.AccTurn) != -1000 {
		t.Error(b.Sum(january))
	}
	same(t, b, m)
	bought := api.Row{Period: february, Origin: january, Doc: "b", Supply: api.Service, Treat: api.Received, Rate: 1900, State: "DE", Base: 500, Tax: 95, Deduct: 95}
	far := api.Row{Period: january, Origin: january, Doc: "c", Sale: true, Supply: api.Goods, Treat: api.Distance, Rate: 2000, State: "FR", Base: 100, Tax: 20}
	input := api.Row{Period: january, Origin: january, Doc: "d", Supply: api.Goods, Treat: api.Input, Rate: 1900, State: "DE", Base: 300, Tax: 57, Deduct: 28, Mixed: true}
	add(t, b, m, []api.Row{bought, far, input}, api.OK)
	if s := b.Sum(january); s != (ledger.Sum{Out: 190, In: 28, Oss: 20}) {
		t.Error(s)
	}
	if s := b.Sum(february); s != (ledger.Sum{Out: 95, In: 95}) {
		t.Error(s)
	}
	for account, want := range map[int]int{api.AccParty: 1190 - 500 + 120 - 357, api.AccTurn: -1000 + 500 - 100 + 329, api.AccOut: -190 - 95, api.AccIn: 95 + 28, api.AccOss: -20} {
		if got := b.Account(account); got != want {
			t.Error(account, got, want)
		}
	}
	if got := b.Period(january); !slices.Equal(got, []api.Row{sold(1000, 190), far, input}) {
		t.Error(got)
	}
	if got := b.Periods(); !slices.Equal(got, []api.Period{january, february}) {
		t.Error(got)
	}
	same(t, b, m)
	add(t, b, m, []api.Row{sold(1000, 190), sold(1000, 190)}, api.OK) // rows that are the same are rows of their own
	same(t, b, m)
}

// P26.1: a row may not be whose Period or Origin isn't Good, or that has an amount that is none, or a posting that is none; all others may, of any treatment.
func TestRowMayNotBe(t *testing.T) {
	good := sold(1000, 190)
	var wrong []api.Row
	for _, p := range noPeriods {
		wrong = append(wrong, with(good, func(r *api.Row) { r.Period = p }), with(good, func(r *api.Row) { r.Origin = p }), with(good, func(r *api.Row) { r.Period, r.Origin = p, p }))
	}
	for _, n := range []int{most + 1, -most - 1, math.MaxInt, math.MinInt} {
		wrong = append(wrong, with(good, func(r *api.Row) { r.Base = n }), with(good, func(r *api.Row) { r.Tax = n }), with(good, func(r *api.Row) { r.Deduct = n }))
	}
	wrong = append(wrong, sold(most, 1), sold(-most, -1), sold(1, most), with(sold(most, 0), func(r *api.Row) { r.Sale, r.Deduct, r.Treat = false, -1, api.Import }))
	for _, r := range wrong {
		for _, l := range [][]api.Row{{r}, {r, good}, {good, r}, {good, good, r, good}, {r, wrong[0]}} {
			b, m := ledger.New(), &model{}
			add(t, b, m, []api.Row{good}, api.OK)
			add(t, b, m, l, api.ErrArg)
			same(t, b, m)
		}
	}
	for k := -1; k <= 16; k++ {
		for _, sale := range either {
			b, m := ledger.New(), &model{}
			add(t, b, m, []api.Row{{Period: january, Origin: february, Sale: sale, Treat: k, Base: 11, Tax: 7, Deduct: 3}}, api.OK)
			same(t, b, m)
		}
	}
}

// P26.1: a row without an amount has no posting that is not 0, and may be: it is a row of its period.
func TestRowOfNothing(t *testing.T) {
	b, m := ledger.New(), &model{}
	add(t, b, m, []api.Row{{Period: january, Origin: january}}, api.OK)
	same(t, b, m)
	if got := b.Periods(); !slices.Equal(got, []api.Period{january}) {
		t.Error(got)
	}
}

// P26.1: what is over behind all rows is refused, of each of a period's sums and of each account, and nothing is added; what is over on the way alone is not.
func TestOver(t *testing.T) {
	row := func(treat int, sale bool, base, tax, deduct int) api.Row {
		return api.Row{Period: january, Origin: january, Treat: treat, Sale: sale, Base: base, Tax: tax, Deduct: deduct}
	}
	for i, x := range []struct{ full, more, less api.Row }{
		{row(api.Home, true, -most, most, 0), row(api.Home, true, -1, 1, 0), row(api.Home, true, 1, -1, 0)},                      // Out, AccOut, AccTurn
		{row(api.Home, true, most, 0, 0), row(api.Home, true, 1, 0, 0), row(api.Home, true, -1, 0, 0)},                           // AccParty, AccTurn
		{row(api.Home, true, 0, 0, most), row(api.Home, true, 0, 0, 1), row(api.Home, true, 0, 0, -1)},                           // In alone: of a sale it is posted nowhere
		{row(api.Distance, false, 0, most, most), row(api.Distance, false, 0, 1, 1), row(api.Distance, false, 0, -1, -1)},        // Oss, In, AccParty, AccIn
		{row(api.Distance, true, -most, most, 0), row(api.Distance, true, -1, 1, 0), row(api.Distance, true, 1, -1, 0)},          // Oss, AccOss
		{row(api.Adjusted, false, 0, 0, most), row(api.Adjusted, false, 0, 0, 1), row(api.Adjusted, false, 0, 0, -1)},            // In, AccIn, AccTurn
		{row(api.Import, false, 0, -most, -most), row(api.Import, false, 0, -1, -1), row(api.Import, false, 0, 1, 1)},            // Out, In, AccOut, AccIn
		{row(api.Import, false, -most, 0, 0), row(api.Import, false, -1, 0, 0), row(api.Import, false, 1, 0, 0)},                 // AccParty, AccTurn
		{row(api.Received, false, 0, most, most), row(api.Received, false, 0, 1, 0), row(api.Received, false, 0, -1, 0)},         // Out and AccOut
		{row(api.Received, false, 0, most, most), row(api.Received, false, -1, 0, 1), row(api.Received, false, 1, 0, -1)},        // In and AccIn
		{row(api.Freed, false, most, 0, 0), row(api.Freed, false, 1, 0, 0), row(api.Freed, false, -1, 0, 0)},                     // AccParty and AccTurn of a purchase
		{row(api.Distance, false, -most, most, 0), row(api.Distance, false, -1, 1, 0), row(api.Distance, false, 1, -1, 0)},       // Oss alone
		{row(api.Acquisition, true, -most, most, 0), row(api.Acquisition, true, -1, 1, 0), row(api.Acquisition, true, 1, -1, 0)}, // Out, AccOut
	} {
		b, m := ledger.New(), &model{}
		add(t, b, m, []api.Row{x.full}, api.OK)
		add(t, b, m, []api.Row{x.more}, api.ErrOver)
		add(t, b, m, []api.Row{x.less, x.more, x.more}, api.ErrOver)
		same(t, b, m)
		add(t, b, m, []api.Row{x.more, x.less}, api.OK) // over on the way
		same(t, b, m)
		add(t, b, m, []api.Row{x.more, x.more, x.less, x.more, x.less, x.less}, api.OK)
		same(t, b, m)
		add(t, b, m, []api.Row{x.less}, api.OK)
		add(t, b, m, []api.Row{x.more}, api.OK)
		same(t, b, m)
		if e := ledger.New().Add([]api.Row{x.full, x.more}); e != api.ErrOver {
			t.Error(i, e)
		}
	}
}

// P26.1: a period's sums are its own; an account is all periods'.
func TestOverByPeriodAndAccount(t *testing.T) {
	in := func(p api.Period, deduct int) api.Row {
		return api.Row{Period: p, Origin: january, Sale: true, Treat: api.Home, Deduct: deduct}
	}
	b, m := ledger.New(), &model{}
	add(t, b, m, []api.Row{in(january, most), in(february, most), in(quarter(2022, 1), -most), in(year(2022), most)}, api.OK)
	for _, p := range []api.Period{january, february, year(2022)} {
		add(t, b, m, []api.Row{in(p, 1)}, api.ErrOver)
		add(t, b, m, []api.Row{in(p, -1), in(p, 1)}, api.OK)
	}
	add(t, b, m, []api.Row{in(month(2022, 3), most), in(quarter(2022, 1), -1)}, api.ErrOver)
	same(t, b, m)
	base := func(p api.Period, base int) api.Row {
		return api.Row{Period: p, Origin: p, Sale: true, Treat: api.Intra, Base: base}
	}
	add(t, b, m, []api.Row{base(january, most)}, api.OK)
	add(t, b, m, []api.Row{base(february, 1)}, api.ErrOver)
	add(t, b, m, []api.Row{base(february, 1), base(year(9999), -1)}, api.OK)
	same(t, b, m)
}

// P26.1: the errors' order: ErrNil, ErrArg, ErrFull, ErrOver; and what a book of MaxRows rows takes.
func TestFullAndErrorsOrder(t *testing.T) {
	small := with(sold(0, 0), func(r *api.Row) { r.Base = 1 })
	wrong := with(small, func(r *api.Row) { r.Period = api.Period{} })
	b := ledger.New()
	if e := b.Add([]api.Row{sold(most-api.MaxRows, 0)}); e != api.OK {
		t.Fatal(e)
	}
	many := slices.Repeat([]api.Row{small}, api.MaxRows)
	for _, x := range []struct {
		l    []api.Row
		want api.Errno
	}{
		{many, api.ErrFull},
		{slices.Concat([]api.Row{wrong}, many), api.ErrArg},
		{slices.Concat([]api.Row{sold(most, 0)}, many[1:]), api.ErrFull},
		{slices.Concat([]api.Row{sold(most, 0)}, many[2:]), api.ErrOver},
	} {
		if e := b.Add(x.l); e != x.want || b.Len() != 1 {
			t.Error(len(x.l), e, x.want, b.Len())
		}
	}
	if e := b.Add(many[2:]); e != api.OK || b.Len() != api.MaxRows-1 {
		t.Fatal(e, b.Len())
	}
	if e := b.Add(many[:2]); e != api.ErrFull || b.Len() != api.MaxRows-1 {
		t.Error(e, b.Len())
	}
	if e := b.Add([]api.Row{sold(most, 0)}); e != api.ErrOver {
		t.Error(e)
	}
	if e := b.Add(many[:1]); e != api.OK || b.Len() != api.MaxRows {
		t.Error(e, b.Len())
	}
	for _, x := range []struct {
		l    []api.Row
		want api.Errno
	}{{nil, api.OK}, {many[:1], api.ErrFull}, {[]api.Row{sold(most, 0)}, api.ErrFull}, {[]api.Row{wrong}, api.ErrArg}} {
		if c, a := b.Check(x.l), b.Add(x.l); c != x.want || a != x.want || b.Len() != api.MaxRows {
			t.Error(c, a, x.want, b.Len())
		}
	}
	if b.Account(api.AccTurn) != -(most-api.MaxRows)-(api.MaxRows-1) || len(b.Period(january)) != api.MaxRows {
		t.Error(b.Account(api.AccTurn))
	}
}

// P26.2: the Periods in the order of their first days, each once, the lower kind first, whatever order they came in.
func TestPeriodsTold(t *testing.T) {
	want := []api.Period{
		month(1970, 1), quarter(1970, 1), year(1970), year(2021), quarter(2021, 4), month(2021, 12), january, quarter(2022, 1), year(2022), february, month(2022, 3),
		month(2022, 4), quarter(2022, 2), month(2023, 1), quarter(9999, 4), month(9999, 12),
	}
	r := rand.New(rand.NewSource(26))
	for range 200 {
		b := ledger.New()
		for _, i := range append(r.Perm(len(want)), r.Perm(len(want))...) {
			row := with(sold(i, i), func(r *api.Row) { r.Period, r.Origin = want[i], year(1999) }) // an Origin is no Period
			if e := b.Add([]api.Row{row}); e != api.OK {
				t.Fatal(e)
			}
		}
		if got := b.Periods(); !slices.Equal(got, want) {
			t.Fatal(got)
		}
	}
}

// P26.2: each telling is memory of its own; what was handed in stays as it was, and what is done to it later changes nothing.
func TestMemoryOfItsOwn(t *testing.T) {
	room := []api.Row{sold(1000, 190), sold(50, 5), sold(7, 7), sold(8, 8)}
	was := slices.Clone(room)
	b, m := ledger.New(), &model{}
	add(t, b, m, room[:2], api.OK)
	if !slices.Equal(room, was) {
		t.Error(room)
	}
	m.rows = slices.Clone(m.rows)
	clear(room)
	same(t, b, m)
	clear(b.Period(january))
	clear(b.Periods())
	same(t, b, m)
	if got := b.Periods(); !slices.Equal(got, []api.Period{january}) {
		t.Error(got)
	}
}

// P26.2: All tells the rows that were there when it was called, may be left, and may be ranged over again.
func TestAll(t *testing.T) {
	b, m := ledger.New(), &model{}
	add(t, b, m, []api.Row{sold(1, 1), sold(2, 2), sold(3, 3)}, api.OK)
	all, was := b.All(), slices.Clone(m.rows)
	for i, r := range all {
		if i == 1 {
			add(t, b, m, []api.Row{sold(4, 4), sold(5, 5)}, api.OK)
		}
		if r != was[i] {
			t.Error(i, r)
		}
	}
	if got := listed(t, all); !slices.Equal(got, was) {
		t.Error(got)
	}
	steps := 0
	for range b.All() {
		if steps++; steps == 2 {
			break
		}
	}
	if steps != 2 {
		t.Error(steps)
	}
	same(t, b, m)
}

// P26.1, P26.2: a book that is nil, or that no call made.
func TestNoBook(t *testing.T) {
	wrong := sold(most+1, 0)
	for _, b := range []*ledger.Book{nil, {}} {
		for _, l := range [][]api.Row{nil, {sold(1, 1)}, {wrong}} {
			if c, a := b.Check(l), b.Add(l); c != api.ErrNil || a != api.ErrNil {
				t.Error(c, a)
			}
		}
		if b.Len() != 0 || len(listed(t, b.All())) != 0 || len(b.Period(january)) != 0 || b.Sum(january) != (ledger.Sum{}) || b.Account(api.AccOut) != 0 || len(b.Periods()) != 0 {
			t.Error(b)
		}
	}
}

// rowByChance tells a row that mostly may be: of some amounts, of few, or of great ones.
func rowByChance(r *rand.Rand, great bool) api.Row {
	amount := func() int {
		edges := []int{0, 0, 1, -1, 190, -5, 1000}
		if great {
			edges = append(edges, most/2, -most/2, most-190, 190-most, most/4, -most/4)
		}
		return edges[r.Intn(len(edges))]
	}
	period := func() api.Period { return periods[r.Intn(len(periods))] }
	x := api.Row{
		Period: period(), Origin: period(), Doc: string(rune('a' + r.Intn(26))), Sale: r.Intn(2) == 0, Supply: r.Intn(9) - 1, Treat: r.Intn(17), Rate: r.Intn(10001),
		State: "FR", Party: "DE1", Base: amount(), Tax: amount(), Deduct: amount(), Mixed: r.Intn(2) == 0,
	}
	if r.Intn(60) == 0 {
		x.Origin = noPeriods[r.Intn(len(noPeriods))]
	}
	return x
}

// P26.1 to P26.4: whatever is added how, the book is its model: each sum is that of its rows, and all accounts together are 0.
func TestByChance(t *testing.T) {
	r := rand.New(rand.NewSource(26))
	told := map[api.Errno]int{}
	for round := range 300 {
		b, m := ledger.New(), &model{}
		for range 12 {
			l := make([]api.Row, r.Intn(7))
			for i := range l {
				l[i] = rowByChance(r, round%2 == 1)
			}
			want := m.check(l)
			told[want]++
			add(t, b, m, l, want)
			same(t, b, m)
		}
	}
	if told[api.OK] < 500 || told[api.ErrArg] < 100 || told[api.ErrOver] < 100 {
		t.Error(told)
	}
}

// P26.2: the order of Periods is the one of days, by chance.
func TestPeriodsByChance(t *testing.T) {
	r := rand.New(rand.NewSource(27))
	for range 20 {
		b, m := ledger.New(), &model{}
		for range 12 {
			p, _ := civil.Of(r.Intn(2000), 1+r.Intn(3))
			add(t, b, m, []api.Row{with(sold(1, 1), func(x *api.Row) { x.Period = p })}, api.OK)
		}
		if got := b.Periods(); !slices.Equal(got, m.order()) {
			t.Error(got)
		}
	}
}

// P26.4: rows added one by one, all at once, or in another order come to the same sums.
func TestAddedHow(t *testing.T) {
	r := rand.New(rand.NewSource(28))
	for range 200 {
		var l []api.Row
		for len(l) < 20 {
			if x := rowByChance(r, false); rowMay(x) {
				l = append(l, x)
			}
		}
		one, all, other := ledger.New(), ledger.New(), ledger.New()
		for i, at := range r.Perm(len(l)) {
			if one.Add(l[i:i+1]) != api.OK || other.Add(l[at:at+1]) != api.OK {
				t.Fatal(l)
			}
		}
		if e := all.Add(l); e != api.OK {
			t.Fatal(e)
		}
		same(t, one, &model{l})
		same(t, all, &model{l})
		for _, p := range periods {
			if one.Sum(p) != other.Sum(p) {
				t.Error(p, one.Sum(p), other.Sum(p))
			}
		}
		if !slices.Equal(one.Periods(), other.Periods()) || !slices.Equal(one.Periods(), all.Periods()) {
			t.Error(one.Periods(), other.Periods(), all.Periods())
		}
	}
}
