package domestic_test

import (
	"fmt"
	"math"
	"math/big"
	"math/rand"
	"reflect"
	"slices"
	"strings"
	"testing"

	"octroi/api"
	"octroi/checker"
	"octroi/domestic"
	"octroi/eval"
	"octroi/ledger"
	"octroi/parser"
)

const most = api.MaxMoney

var (
	january   = month(2022, 1)
	february  = month(2022, 2)
	numbers   = []int{0, 1, -1, 9, 10, -10, 190, most, -most, most + 1, math.MaxInt, math.MinInt}
	noPeriods = []api.Period{
		{}, month(2022, 0), month(2022, 13), month(2022, -1), quarter(2022, 0), quarter(2022, 5), year(2022, 0), year(2022, 2), month(1969, 12), month(10000, 1),
		{Kind: 4, Year: 2022, Index: 1}, {Kind: 0, Year: 2022, Index: 1}, {Kind: -1, Year: 2022, Index: 1}, {Kind: math.MaxInt, Year: math.MinInt, Index: math.MaxInt},
	}
	periods = []api.Period{
		january, february, month(2022, 3), month(2022, 12), month(2021, 1), month(1970, 1), month(9999, 12), quarter(2022, 1), quarter(2021, 1), quarter(9999, 4),
		year(2022, 1), year(2021, 1), year(1970, 1),
	}
	programs = []string{
		"", "box 1 = 5;", "box 7 = box 3 - box 5; box 5 = sum(in); box 3 = sum(out);", "box 1 = sum(base, sale = 1); box 2 = sum(tax, rate > 1000, late = 0);",
		"box 9 = max(sum(tax, late = 1), 0); box 8 = min(box 9, 100); box 1 = 0 - box 8;",
	}
)

func month(y, index int) api.Period { return api.Period{Kind: api.Month, Year: y, Index: index} }

func quarter(y, index int) api.Period { return api.Period{Kind: api.Quarter, Year: y, Index: index} }

func year(y, index int) api.Period { return api.Period{Kind: api.Year, Year: y, Index: index} }

func number(n int) *big.Int { return big.NewInt(int64(n)) }

// sale is a row of a sale at home.
func sale(period, origin api.Period, base, tax int) api.Row {
	return api.Row{Period: period, Origin: origin, Sale: true, Supply: api.Service, Treat: api.Home, Rate: 1900, State: "DE", Base: base, Tax: tax}
}

// bought is a row of a purchase at home, of which all tax is deducted.
func bought(period, origin api.Period, base, tax int) api.Row {
	return api.Row{Period: period, Origin: origin, Supply: api.Service, Treat: api.Input, Rate: 1900, State: "DE", Base: base, Tax: tax, Deduct: tax}
}

// book is the book of rows.
func book(t *testing.T, l ...api.Row) *ledger.Book {
	t.Helper()
	b := ledger.New()
	if e := b.Add(l); e != api.OK {
		t.Fatal("a row that can't be added:", int(e))
	}
	return b
}

// plan is the plan of a program's text.
func plan(t *testing.T, s string) *checker.Plan {
	t.Helper()
	l, at, e := parser.Parse(s)
	if e != api.OK {
		t.Fatal(s, at, int(e))
	}
	p, e := checker.Check(l)
	if e != api.OK {
		t.Fatal(s, int(e))
	}
	return p
}

// heavy is the plan of a box that is too much over any rows.
func heavy(t *testing.T) *checker.Plan {
	t.Helper()
	return plan(t, "box 1 = 999999999999999999; box 2 = box 1 + box 1; box 4 = box 2 + box 2; box 8 = box 4 + box 4;")
}

// of is Of, where no error is told.
func of(t *testing.T, b *ledger.Book, p *checker.Plan, period api.Period) domestic.Return {
	t.Helper()
	r, e := domestic.Of(b, p, period)
	if e != api.OK {
		t.Fatal(period, int(e))
	}
	return r
}

// owed is what is owed by a row, as chapters 18 and 25 say it.
func owed(r api.Row) *big.Int {
	switch r.Treat {
	case api.Home, api.Margin, api.Below:
		if r.Sale {
			return number(r.Tax)
		}
	case api.Acquisition, api.Received, api.Import:
		return number(r.Tax)
	}
	return new(big.Int)
}

// ofModel is Of of rows, a plan, and a period that is right, word for word as the document says it.
func ofModel(rows []api.Row, p *checker.Plan, period api.Period) (domestic.Return, api.Errno) {
	var counts []api.Row
	late, out, in := 0, new(big.Int), new(big.Int)
	for _, r := range rows {
		if r.Period != period {
			continue
		}
		counts = append(counts, r)
		out.Add(out, owed(r))
		in.Add(in, number(r.Deduct))
		if r.Origin != r.Period {
			late++
		}
	}
	boxes, e := eval.Run(p, counts)
	if e != api.OK {
		return domestic.Return{}, e
	}
	net := new(big.Int).Sub(out, in)
	if net.CmpAbs(number(1<<62)) > 0 {
		return domestic.Return{}, api.ErrOver
	}
	return domestic.Return{Period: period, Boxes: boxes, Out: int(out.Int64()), In: int(in.Int64()), Net: int(net.Int64()), Rows: len(counts), Late: late}, api.OK
}

// correctionsModel is Corrections of rows.
func correctionsModel(rows []api.Row, period api.Period) []api.Period {
	var l []api.Period
	for _, r := range rows {
		if r.Period == period && r.Origin != r.Period && !slices.Contains(l, r.Origin) {
			l = append(l, r.Origin)
		}
	}
	return l
}

// equal tells whether two returns are equal in all; a list without an element may be nil.
func equal(a, c domestic.Return) bool {
	if len(a.Boxes) == 0 && len(c.Boxes) == 0 {
		a.Boxes, c.Boxes = nil, nil
	}
	return reflect.DeepEqual(a, c)
}

// holdOf holds Of against the model.
func holdOf(t *testing.T, rows []api.Row, b *ledger.Book, p *checker.Plan, period api.Period) {
	t.Helper()
	got, e := domestic.Of(b, p, period)
	want, x := ofModel(rows, p, period)
	if e != x || !equal(got, want) {
		t.Fatalf("Of %v: %v %d, not %v %d", period, got, int(e), want, int(x))
	}
	if number(got.Out).Cmp(new(big.Int).Add(number(got.In), number(got.Net))) != 0 {
		t.Fatal("Out is not In and Net together:", got)
	}
}

// chanceRow is a row by chance.
func chanceRow(chance *rand.Rand, top int) api.Row {
	amount := func() int { return (1 - 2*chance.Intn(2)) * int(chance.Int63n(int64(top)+1)) }
	r := api.Row{
		Period: periods[chance.Intn(len(periods))], Origin: periods[chance.Intn(len(periods))], Sale: chance.Intn(2) == 0, Supply: 1 + chance.Intn(7), Treat: chance.Intn(17),
		Rate: chance.Intn(3) * 950, Base: amount(), Tax: amount(), Deduct: amount(), Mixed: chance.Intn(2) == 0,
	}
	if chance.Intn(2) == 0 {
		r.Origin = r.Period
	}
	return r
}

// chanceBook is a book of rows by chance that could be added, and these.
func chanceBook(chance *rand.Rand, many, top int) ([]api.Row, *ledger.Book) {
	var rows []api.Row
	b := ledger.New()
	for range many {
		if r := chanceRow(chance, top); b.Add([]api.Row{r}) == api.OK {
			rows = append(rows, r)
		}
	}
	return rows, b
}

// P35.1: the document's example.
func TestOfExample(t *testing.T) {
	b := book(t, sale(january, january, 1000, 190))
	for _, p := range []*checker.Plan{plan(t, ""), {}} { // a plan that no call made has no boxes
		got := of(t, b, p, january)
		if want := (domestic.Return{Period: january, Out: 190, Net: 190, Rows: 1}); !equal(got, want) {
			t.Error(got)
		}
	}
}

// P35.1: Boxes are what Run tells, in the order of places; Out, In, Rows and Late are those of the period's rows alone.
func TestOfNumbers(t *testing.T) {
	b := book(t,
		sale(february, february, 1000, 190), sale(february, january, 100, 19), bought(february, january, 2000, 300), bought(february, month(2021, 12), 10, 1),
		sale(january, january, 5000, 950), sale(quarter(2022, 1), february, 7000, 1330), sale(year(2022, 1), february, 9000, 1710), sale(month(2021, 2), february, 1, 1),
	)
	p := plan(t, "box 81 = sum(base, sale = 1); box 9 = box 81 + box 7; box 7 = sum(tax, late = 1); box 8 = sum(in);")
	want := domestic.Return{Period: february, Boxes: []eval.Value{{N: 81, Amount: 1100}, {N: 9, Amount: 1420}, {N: 7, Amount: 320}, {N: 8, Amount: 301}}, Out: 209, In: 301, Net: -92, Rows: 4, Late: 3}
	if got := of(t, b, p, february); !equal(got, want) {
		t.Error(got)
	}
}

// P35.1: of a period without a row all is 0, but the boxes are there.
func TestOfNothing(t *testing.T) {
	p := plan(t, "box 1 = 5; box 2 = sum(tax);")
	for _, b := range []*ledger.Book{ledger.New(), book(t, sale(month(2020, 1), february, 1000, 190))} {
		for _, period := range periods {
			want := domestic.Return{Period: period, Boxes: []eval.Value{{N: 1, Amount: 5}, {N: 2}}}
			if got := of(t, b, p, period); !equal(got, want) {
				t.Error(got)
			}
		}
	}
}

// P35.1: which rows are owed and deducted, of each treatment and side.
func TestOfTreatments(t *testing.T) {
	for treat := -1; treat <= 16; treat++ {
		for _, isSale := range []bool{false, true} {
			rows := []api.Row{{Period: january, Origin: january, Sale: isSale, Treat: treat, Base: 1000, Tax: 190, Deduct: 70}}
			holdOf(t, rows, book(t, rows...), plan(t, programs[2]), january)
		}
	}
}

// P35.1: the errors, each ahead of those behind it: nil, or what no call made; a period that is none; what Run tells; Net.
func TestOfErrors(t *testing.T) {
	over := book(t, sale(january, january, -most, most), bought(january, january, 0, -1))
	good, wrong := plan(t, "box 1 = 5;"), heavy(t)
	none := month(2022, 13)
	for i, c := range []struct {
		b      *ledger.Book
		p      *checker.Plan
		period api.Period
		want   api.Errno
	}{
		{nil, nil, none, api.ErrNil}, {nil, good, january, api.ErrNil}, {nil, wrong, none, api.ErrNil}, {over, nil, january, api.ErrNil}, {over, nil, none, api.ErrNil},
		{&ledger.Book{}, good, january, api.ErrNil}, {&ledger.Book{}, wrong, none, api.ErrNil}, {&ledger.Book{}, nil, none, api.ErrNil},
		{over, good, none, api.ErrArg}, {over, wrong, none, api.ErrArg}, {ledger.New(), wrong, none, api.ErrArg},
		{ledger.New(), wrong, january, api.ErrOver}, {over, wrong, february, api.ErrOver}, {over, good, january, api.ErrOver}, {over, &checker.Plan{}, january, api.ErrOver},
		{over, &checker.Plan{}, none, api.ErrArg}, {over, good, february, api.OK},
	} {
		got, e := domestic.Of(c.b, c.p, c.period)
		if e != c.want || e != api.OK && !reflect.DeepEqual(got, domestic.Return{}) {
			t.Error(i, int(e), got)
		}
	}
	for _, period := range noPeriods {
		if got, e := domestic.Of(over, good, period); e != api.ErrArg || !reflect.DeepEqual(got, domestic.Return{}) {
			t.Error(period, int(e), got)
		}
	}
}

// P35.1: a box that is too much over the rows of its period is an error of that period alone.
func TestOfBoxOver(t *testing.T) {
	rows := []api.Row{
		sale(january, january, most, 0), bought(january, january, most, 0), sale(february, february, most, 0), bought(february, february, most, 0),
		sale(month(2022, 3), month(2022, 3), 1, 0), bought(month(2022, 3), month(2022, 3), most, 0), sale(month(2022, 4), month(2022, 4), most, 0),
	}
	b := book(t, rows...)
	sold, all := plan(t, "box 1 = sum(base, sale = 1);"), plan(t, "box 2 = 7; box 1 = sum(base);")
	for i, period := range []api.Period{january, february, month(2022, 3), month(2022, 4), month(2022, 5)} {
		holdOf(t, rows, b, sold, period)
		holdOf(t, rows, b, all, period)
		if _, e := domestic.Of(b, sold, period); e != api.OK {
			t.Error(period, int(e))
		}
		if _, e := domestic.Of(b, all, period); (e == api.ErrOver) != (i < 3) {
			t.Error(period, int(e))
		}
	}
}

// P35.1, P35.4: Net is Out less In, up to the greatest amount and no further.
func TestOfNet(t *testing.T) {
	p := plan(t, "")
	for _, out := range []int{0, 1, -1, most, -most, most - 1, 1 - most} {
		for _, in := range []int{0, 1, -1, most, -most, most - 1, 1 - most} {
			rows := []api.Row{sale(january, january, -out, out), bought(january, january, 0, in)}
			holdOf(t, rows, book(t, rows...), p, january)
		}
	}
	if _, e := domestic.Of(book(t, sale(january, january, most, -most), bought(january, january, 0, 1)), p, january); e != api.ErrOver {
		t.Error(int(e))
	}
	if r := of(t, book(t, bought(january, january, most, -most)), p, january); r.Net != most || r.In != -most {
		t.Error(r)
	}
}

// P35.1, P35.4: Of is the model's, over rows, programs and periods by chance.
func TestOfByChance(t *testing.T) {
	chance := rand.New(rand.NewSource(351))
	for range 300 {
		top := []int{2, 1000, most / 8, most}[chance.Intn(4)]
		rows, b := chanceBook(chance, chance.Intn(60), top)
		p := plan(t, programs[chance.Intn(len(programs))])
		for _, period := range periods {
			holdOf(t, rows, b, p, period)
		}
	}
}

// P35.1: in which order rows came is nothing to a return.
func TestOfOrder(t *testing.T) {
	chance := rand.New(rand.NewSource(352))
	rows, b := chanceBook(chance, 100, 1000)
	for _, program := range programs {
		p := plan(t, program)
		for range 20 {
			chance.Shuffle(len(rows), func(i, j int) { rows[i], rows[j] = rows[j], rows[i] })
			for _, period := range periods {
				if a, c := of(t, b, p, period), of(t, book(t, rows...), p, period); !equal(a, c) || !domestic.Same(a, c) {
					t.Fatal(a, c)
				}
			}
		}
	}
}

// P35.2: Corrections are the Origins of late rows, each once, as they first stand there; no other period's, and none of rows that are not late.
func TestCorrections(t *testing.T) {
	march := month(2022, 3)
	b := book(t,
		sale(march, february, 1, 0), sale(march, march, 2, 0), sale(march, quarter(2022, 1), 3, 0), bought(march, january, 4, 0), sale(march, february, 5, 0), sale(march, month(2022, 4), 6, 0),
		sale(february, month(2021, 1), 7, 0), sale(march, january, 8, 0), sale(march, month(2021, 3), 9, 0), sale(february, february, 1, 0), sale(february, month(2021, 1), 7, 0), sale(january, january, 0, 0),
	)
	for _, c := range []struct {
		period api.Period
		want   []api.Period
	}{
		{march, []api.Period{february, quarter(2022, 1), january, month(2022, 4), month(2021, 3)}}, {february, []api.Period{month(2021, 1)}},
		{january, nil}, {month(2022, 4), nil}, {quarter(2022, 1), nil}, {month(2021, 1), nil}, {api.Period{}, nil}, {month(2022, 13), nil},
	} {
		if got := domestic.Corrections(b, c.period); !slices.Equal(got, c.want) {
			t.Error(c.period, got)
		}
	}
}

// P35.2: there are none of a book that is nil, or that no call made, or of what is no period.
func TestCorrectionsNone(t *testing.T) {
	rows, b := chanceBook(rand.New(rand.NewSource(353)), 100, 10)
	for _, period := range append(noPeriods, periods...) {
		for _, none := range []*ledger.Book{nil, {}, ledger.New()} {
			if l := domestic.Corrections(none, period); len(l) > 0 {
				t.Error(period, l)
			}
		}
	}
	for _, period := range noPeriods {
		if l := domestic.Corrections(b, period); len(l) > 0 || len(rows) == 0 {
			t.Error(period, l)
		}
	}
}

// P35.2: Corrections are the model's, over rows by chance, and there are some where rows are late.
func TestCorrectionsByChance(t *testing.T) {
	chance := rand.New(rand.NewSource(354))
	p := plan(t, "")
	for range 300 {
		rows, b := chanceBook(chance, chance.Intn(200), 10)
		for _, period := range periods {
			got := domestic.Corrections(b, period)
			if want := correctionsModel(rows, period); !slices.Equal(got, want) {
				t.Fatal(period, got, want)
			}
			if r := of(t, b, p, period); (r.Late > 0) != (len(got) > 0) || r.Late < len(got) {
				t.Fatal(r, got)
			}
		}
	}
}

// P35.2: rows may be late from all months that there are; each of these is told once.
func TestCorrectionsMany(t *testing.T) {
	const months = 8030 * 12
	rows := make([]api.Row, 2*months)
	for i := range rows {
		rows[i] = sale(january, month(1970+i/12%8030, 1+i%12), 0, 0)
	}
	got := domestic.Corrections(book(t, rows...), january)
	if len(got) != months-1 || got[0] != month(1970, 1) || got[len(got)-1] != month(9999, 12) || slices.Contains(got, january) {
		t.Error(len(got))
	}
}

// P35.2: returns are the same, if all is, box by box.
func TestSame(t *testing.T) {
	r := func() domestic.Return {
		return domestic.Return{Period: january, Boxes: []eval.Value{{N: 1, Amount: 2}, {N: 3, Amount: 4}}, Out: 5, In: 6, Net: 7, Rows: 8, Late: 9}
	}
	if !domestic.Same(r(), r()) || !domestic.Same(domestic.Return{}, domestic.Return{}) {
		t.Error("not the same")
	}
	for i, change := range []func(r *domestic.Return){
		func(r *domestic.Return) { r.Period.Kind = api.Quarter }, func(r *domestic.Return) { r.Period.Year++ }, func(r *domestic.Return) { r.Period.Index++ },
		func(r *domestic.Return) { r.Out++ }, func(r *domestic.Return) { r.In++ }, func(r *domestic.Return) { r.Net++ }, func(r *domestic.Return) { r.Rows++ }, func(r *domestic.Return) { r.Late++ },
		func(r *domestic.Return) { r.Out, r.In = r.In, r.Out }, func(r *domestic.Return) { r.Rows, r.Late = r.Late, r.Rows },
		func(r *domestic.Return) { r.Boxes = nil }, func(r *domestic.Return) { r.Boxes = r.Boxes[:1] }, func(r *domestic.Return) { r.Boxes = r.Boxes[1:] },
		func(r *domestic.Return) { r.Boxes = append(r.Boxes, eval.Value{}) }, func(r *domestic.Return) { r.Boxes[0].N++ }, func(r *domestic.Return) { r.Boxes[0].Amount++ },
		func(r *domestic.Return) { r.Boxes[1].N++ }, func(r *domestic.Return) { r.Boxes[1].Amount = -4 }, func(r *domestic.Return) { slices.Reverse(r.Boxes) },
		func(r *domestic.Return) { *r = domestic.Return{} },
	} {
		c := r()
		change(&c)
		if domestic.Same(r(), c) || domestic.Same(c, r()) || !domestic.Same(c, c) {
			t.Error(i)
		}
	}
}

// P35.2: a list without a box may be nil or empty; what lies behind a list's length is nothing.
func TestSameLists(t *testing.T) {
	two := []eval.Value{{N: 1, Amount: 2}, {N: 3, Amount: 4}}
	for _, c := range [][2][]eval.Value{{nil, {}}, {{}, two[:0]}, {two[:1], two[:1:1]}, {two[:1], []eval.Value{{N: 1, Amount: 2}, {N: 5, Amount: 6}}[:1]}} {
		a, b := domestic.Return{Boxes: c[0]}, domestic.Return{Boxes: c[1]}
		if !domestic.Same(a, b) || !domestic.Same(b, a) || domestic.Text(a) != domestic.Text(b) {
			t.Error(c)
		}
	}
}

// P35.3: the lines of a return.
func TestText(t *testing.T) {
	r := domestic.Return{Period: january, Boxes: []eval.Value{{N: 81, Amount: 1000}, {N: 2, Amount: -5}, {N: 0, Amount: 0}}, Out: 190, In: 300, Net: -110, Rows: 3, Late: 1}
	if got := domestic.Text(r); got != "return M2022-1\n81 1000\n2 -5\n0 0\nout 190\nin 300\nnet -110\nrows 3\nlate 1\n" {
		t.Errorf("%q", got)
	}
	b := book(t, sale(january, january, 1000, 190))
	if got := domestic.Text(of(t, b, plan(t, ""), january)); got != "return M2022-1\nout 190\nin 0\nnet 190\nrows 1\nlate 0\n" {
		t.Errorf("%q", got)
	}
}

// P35.3: periods of each kind, and what is none.
func TestTextPeriods(t *testing.T) {
	for _, c := range []struct {
		p    api.Period
		want string
	}{
		{january, "M2022-1"}, {month(1970, 12), "M1970-12"}, {quarter(9999, 4), "Q9999-4"}, {quarter(2022, 1), "Q2022-1"}, {year(2022, 1), "Y2022-1"}, {year(1970, 1), "Y1970-1"},
		{api.Period{}, "0-0"}, {month(0, -1), "M0--1"}, {year(-5, 13), "Y-5-13"}, {api.Period{Kind: 4, Year: 2022, Index: 1}, "2022-1"}, {api.Period{Kind: -1, Year: 2022, Index: 1}, "2022-1"},
		{api.Period{Kind: api.Quarter, Year: math.MinInt, Index: math.MaxInt}, "Q-9223372036854775808-9223372036854775807"},
	} {
		if got := domestic.Text(domestic.Return{Period: c.p}); got != "return "+c.want+"\nout 0\nin 0\nnet 0\nrows 0\nlate 0\n" {
			t.Errorf("%v: %q", c.p, got)
		}
	}
}

// P35.3: Text is the model's, of numbers by chance in their whole range.
func TestTextByChance(t *testing.T) {
	chance := rand.New(rand.NewSource(355))
	n := func() int { return numbers[chance.Intn(len(numbers))] }
	for range 1000 {
		r := domestic.Return{Period: periods[chance.Intn(len(periods))], Out: n(), In: n(), Net: n(), Rows: n(), Late: n()}
		var boxes strings.Builder
		for range chance.Intn(5) {
			v := eval.Value{N: n(), Amount: n()}
			r.Boxes = append(r.Boxes, v)
			fmt.Fprintln(&boxes, v.N, v.Amount)
		}
		want := fmt.Sprintf("return %c%d-%d\n%sout %d\nin %d\nnet %d\nrows %d\nlate %d\n", "MQY"[r.Period.Kind-1], r.Period.Year, r.Period.Index, boxes.String(), r.Out, r.In, r.Net, r.Rows, r.Late)
		if got := domestic.Text(r); got != want {
			t.Fatalf("%q, not %q", got, want)
		}
	}
}

// P35.1, P35.2: asking changes nothing, and what was told stays as it was.
func TestNothingChanges(t *testing.T) {
	chance := rand.New(rand.NewSource(356))
	rows, b := chanceBook(chance, 100, 1000)
	p := plan(t, programs[2])
	told, corrections := of(t, b, p, january), domestic.Corrections(b, january)
	text := domestic.Text(told)
	before := slices.Clone(told.Boxes)
	for _, period := range periods {
		of(t, b, p, period)
		domestic.Corrections(b, period)
	}
	var kept []api.Row
	for _, r := range b.All() {
		kept = append(kept, r)
	}
	if !slices.Equal(kept, rows) || p.Len() != 3 {
		t.Error("what is kept changed")
	}
	if e := b.Add([]api.Row{sale(january, month(2020, 1), 10, 7), bought(january, month(2020, 2), 10, 7)}); e != api.OK {
		t.Fatal(int(e))
	}
	if !slices.Equal(told.Boxes, before) || !slices.Equal(corrections, correctionsModel(rows, january)) || domestic.Text(told) != text {
		t.Error("what was told changed")
	}
	if again := domestic.Corrections(b, january); len(again) != len(corrections)+2 || domestic.Same(told, of(t, b, p, january)) {
		t.Error("what was added is not told")
	}
}
