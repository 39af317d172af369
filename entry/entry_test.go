package entry_test

import (
	"fmt"
	"math"
	"math/rand"
	"slices"
	"strings"
	"testing"

	"octroi/api"
	"octroi/entry"
	"octroi/twin"
)

var (
	fields   = []string{"base", "tax", "out", "in"}
	tags     = []string{"treat", "rate", "supply", "sale", "late", "mixed"}
	noNames  = []string{"", " ", "Base", "TAX", "base ", " base", "bas", "bases", "ta", "o", "inn", "i", "Treat", "rates", "sale\x00", "lat", "owed", "deduct", "period", "origin", "state", "doc", "party", "home", "0", "base tax", "mixedmixed", "\xff", "ßale"}
	numbers  = []int{0, 1, -1, 5, -16, 190, 1000, -1190, 1900, api.MaxMoney, -api.MaxMoney, api.MaxMoney + 1, math.MaxInt, math.MinInt, math.MinInt + 1}
	noTreats = []int{0, -1, 16, 17, 100, math.MinInt, math.MaxInt, 1 << 32, 1<<32 + api.Home, -1<<32 + api.Import}
	either   = []bool{false, true}
	names    = strings.Fields("home freed margin intra export reverse outside distance below abroad input acquisition received import adjusted")
	january  = api.Period{Kind: api.Month, Year: 2022, Index: 1}
	february = api.Period{Kind: api.Month, Year: 2022, Index: 2}
)

// treats tells all treatments, those that are none too.
func treats() []int {
	l := slices.Clone(noTreats)
	for k := api.Home; k <= api.Adjusted; k++ {
		l = append(l, k)
	}
	return l
}

// modelOwed is the document's words: of an Output, if it is a sale, or Deducts.
func modelOwed(r api.Row) int {
	output := slices.Contains([]int{api.Home, api.Margin, api.Below, api.Acquisition, api.Received, api.Import}, r.Treat)
	deducts := slices.Contains([]int{api.Input, api.Acquisition, api.Received, api.Import}, r.Treat)
	if output && (r.Sale || deducts) {
		return r.Tax
	}
	return 0
}

// modelLate holds what makes a period against its like, one by one.
func modelLate(r api.Row) bool {
	p, o := r.Period, r.Origin
	return p.Kind != o.Kind || p.Year != o.Year || p.Index != o.Index
}

func modelMark(holds bool) int {
	return map[bool]int{true: 1}[holds]
}

// modelLine is Line by the library's formats.
func modelLine(r api.Row) string {
	name, side, late := "", "P", ""
	if r.Treat >= 1 && r.Treat <= len(names) {
		name = names[r.Treat-1]
	}
	if r.Sale {
		side = "S"
	}
	if modelLate(r) {
		late = " L"
	}
	return fmt.Sprintf("%s %s %d %d %d %d %d%s", name, side, r.Rate, r.Base, r.Tax, modelOwed(r), r.Deduct, late)
}

// byChance tells a row, with anything in its fields.
func byChance(r *rand.Rand) api.Row {
	number := func() int {
		if r.Intn(2) == 0 {
			return numbers[r.Intn(len(numbers))]
		}
		return int(r.Uint64())
	}
	period := func() api.Period { return api.Period{Kind: r.Intn(3), Year: 2021 + r.Intn(2), Index: r.Intn(3)} }
	all := treats()
	return api.Row{
		Period: period(), Origin: period(), Doc: "a", Sale: r.Intn(2) == 0, Supply: number(), Treat: all[r.Intn(len(all))],
		Rate: number(), State: "DE", Party: "FR1", Base: number(), Tax: number(), Deduct: number(), Mixed: r.Intn(2) == 0,
	}
}

// P25.1: a row is late just where its Period is another one than its Origin: by its Kind, its Year or its Index.
func TestLate(t *testing.T) {
	for _, x := range []struct {
		period, origin api.Period
		want           bool
	}{
		{january, january, false},
		{february, january, true},
		{january, february, true}, // another one is another one, also if it is ahead
		{api.Period{}, api.Period{}, false},
		{january, api.Period{}, true},
		{api.Period{Kind: api.Month, Year: 2022, Index: 1}, api.Period{Kind: api.Quarter, Year: 2022, Index: 1}, true},
		{api.Period{Kind: api.Month, Year: 2022, Index: 1}, api.Period{Kind: api.Month, Year: 2021, Index: 1}, true},
		{api.Period{Kind: api.Quarter, Year: 2022, Index: 4}, api.Period{Kind: api.Quarter, Year: 2022, Index: 3}, true},
		{api.Period{Kind: -1, Year: math.MinInt, Index: math.MaxInt}, api.Period{Kind: -1, Year: math.MinInt, Index: math.MaxInt}, false},
		{api.Period{Kind: 1, Year: 1 << 32, Index: 1}, api.Period{Kind: 1, Year: 0, Index: 1}, true},
	} {
		if got := entry.Late(api.Row{Period: x.period, Origin: x.origin}); got != x.want {
			t.Error(x, got)
		}
	}
}

// P25.1: of each treatment, and of those that are none, sold and bought: what is owed.
func TestOwedOfEachTreatment(t *testing.T) {
	for _, k := range treats() {
		for _, sale := range either {
			for _, tax := range numbers {
				r := api.Row{Treat: k, Sale: sale, Tax: tax, Base: 7, Deduct: 9}
				if got := entry.Owed(r); got != modelOwed(r) {
					t.Error(k, sale, tax, got)
				}
			}
		}
	}
}

// P25.1: treatments whose tax is owed of sales alone, of sales and purchases, and of neither.
func TestOwedTold(t *testing.T) {
	for _, x := range []struct {
		treat        int
		sold, bought int
	}{
		{api.Home, 19, 0}, {api.Freed, 0, 0}, {api.Margin, 19, 0}, {api.Intra, 0, 0}, {api.Export, 0, 0}, {api.Reverse, 0, 0}, {api.Outside, 0, 0},
		{api.Distance, 0, 0}, {api.Below, 19, 0}, {api.Abroad, 0, 0}, {api.Input, 0, 0}, {api.Acquisition, 19, 19}, {api.Received, 19, 19}, {api.Import, 19, 19},
		{api.Adjusted, 0, 0}, {0, 0, 0}, {16, 0, 0}, {-1, 0, 0},
	} {
		sold, bought := api.Row{Treat: x.treat, Sale: true, Tax: 19}, api.Row{Treat: x.treat, Tax: 19}
		if s, b := entry.Owed(sold), entry.Owed(bought); s != x.sold || b != x.bought {
			t.Error(x, s, b)
		}
	}
}

// P25.1: what is owed of a row as twin makes it is what it posts on AccOut, turned; so what is owed is cleared there.
func TestOwedIsPosted(t *testing.T) {
	for k := api.Home; k <= api.Import; k++ {
		for _, sale := range either {
			if sale && k == api.Input {
				continue // no sale is
			}
			r, e := twin.Make(twin.In{Row: api.Row{Treat: k, Sale: sale, Base: 1000, Tax: 190, Rate: 1900, State: "DE"}, Percent: 100})
			if e != api.OK {
				t.Fatal(k, sale, e)
			}
			posts, e := twin.Posts(r)
			out, f := twin.Of(posts, api.AccOut)
			if e != api.OK || f != api.OK || entry.Owed(r) != -out {
				t.Error(k, sale, entry.Owed(r), out)
			}
		}
	}
}

// P25.2: the names of amounts, in their order, and what each tells.
func TestFieldsTold(t *testing.T) {
	if got := entry.Fields(); !slices.Equal(got, fields) {
		t.Error(got)
	}
	r := api.Row{Treat: api.Received, Rate: 1, Supply: 2, Base: 1000, Tax: 190, Deduct: 95}
	for i, want := range []int{1000, 190, 190, 95} {
		if got, ok := entry.Field(r, fields[i]); got != want || !ok {
			t.Error(fields[i], got, ok)
		}
	}
	r.Treat = api.Input // nothing is owed
	if got, ok := entry.Field(r, "out"); got != 0 || !ok {
		t.Error(got, ok)
	}
}

// P25.3: the names of marks, in their order, and what each tells.
func TestTagsTold(t *testing.T) {
	if got := entry.Tags(); !slices.Equal(got, tags) {
		t.Error(got)
	}
	for _, x := range []struct {
		r    api.Row
		want []int
	}{
		{api.Row{}, []int{0, 0, 0, 0, 0, 0}},
		{api.Row{Treat: 12, Rate: 1900, Supply: 7}, []int{12, 1900, 7, 0, 0, 0}},
		{api.Row{Treat: 1, Rate: 700, Supply: 2, Sale: true}, []int{1, 700, 2, 1, 0, 0}},
		{api.Row{Treat: 2, Rate: 3, Supply: 4, Period: january}, []int{2, 3, 4, 0, 1, 0}},
		{api.Row{Treat: 4, Rate: 3, Supply: 2, Origin: january}, []int{4, 3, 2, 0, 1, 0}},
		{api.Row{Treat: 4, Rate: 3, Supply: 2, Mixed: true}, []int{4, 3, 2, 0, 0, 1}},
		{api.Row{Treat: 15, Rate: -1, Supply: math.MaxInt, Sale: true, Period: january, Origin: february, Mixed: true}, []int{15, -1, math.MaxInt, 1, 1, 1}},
		{api.Row{Treat: math.MinInt, Rate: math.MaxInt, Supply: -9, Period: january, Origin: january}, []int{math.MinInt, math.MaxInt, -9, 0, 0, 0}},
	} {
		for i, want := range x.want {
			if got, ok := entry.Tag(x.r, tags[i]); got != want || !ok {
				t.Error(x.r, tags[i], got, ok)
			}
		}
	}
}

// P25.2, P25.3: another name is no amount's and no mark's, nor is one of the others; it tells 0 and false.
func TestNoNames(t *testing.T) {
	r := api.Row{Period: january, Origin: february, Sale: true, Supply: 1, Treat: 1, Rate: 2, Base: 3, Tax: 4, Deduct: 5, Mixed: true}
	for _, name := range append(slices.Clone(noNames), tags...) {
		if got, ok := entry.Field(r, name); got != 0 || ok {
			t.Errorf("%q: %d %v", name, got, ok)
		}
	}
	for _, name := range append(slices.Clone(noNames), fields...) {
		if got, ok := entry.Tag(r, name); got != 0 || ok {
			t.Errorf("%q: %d %v", name, got, ok)
		}
	}
}

// P25.2, P25.3: each telling of the names is memory of its own.
func TestNamesAreNew(t *testing.T) {
	for _, tell := range []func() []string{entry.Fields, entry.Tags} {
		first := tell()
		want := slices.Clone(first)
		clear(first)
		if got := tell(); !slices.Equal(got, want) {
			t.Error(got)
		}
	}
}

// P25.1 to P25.4: of any row, each call tells what the document's words tell.
func TestRowsByChance(t *testing.T) {
	r := rand.New(rand.NewSource(25))
	for range 200000 {
		x := byChance(r)
		owed, late := modelOwed(x), modelLate(x)
		if entry.Owed(x) != owed || entry.Late(x) != late {
			t.Fatal(x, entry.Owed(x), entry.Late(x))
		}
		for i, want := range []int{x.Base, x.Tax, owed, x.Deduct} {
			if got, ok := entry.Field(x, fields[i]); got != want || !ok {
				t.Fatal(x, fields[i], got, ok)
			}
		}
		for i, want := range []int{x.Treat, x.Rate, x.Supply, modelMark(x.Sale), modelMark(late), modelMark(x.Mixed)} {
			if got, ok := entry.Tag(x, tags[i]); got != want || !ok {
				t.Fatal(x, tags[i], got, ok)
			}
		}
		if got := entry.Line(x); got != modelLine(x) {
			t.Fatalf("%v: %q", x, got)
		}
	}
}

// P25.4: lines as the document says them.
func TestLineTold(t *testing.T) {
	for _, x := range []struct {
		r    api.Row
		want string
	}{
		{api.Row{Treat: api.Home, Sale: true, Rate: 1900, Base: 1000, Tax: 190}, "home S 1900 1000 190 190 0"}, // the document's first example
		{api.Row{Treat: api.Home, Sale: true, Rate: 1900, Base: 1000, Tax: 190, Period: february, Origin: january}, "home S 1900 1000 190 190 0 L"},
		{api.Row{Treat: api.Home, Sale: true, Rate: 1900, Base: 1000, Tax: 190, Period: january, Origin: january, Mixed: true}, "home S 1900 1000 190 190 0"},
		{api.Row{Treat: api.Received, Rate: 700, Base: -1000, Tax: -70, Deduct: -35, Supply: 9}, "received P 700 -1000 -70 -70 -35"},
		{api.Row{Treat: api.Input, Rate: 1900, Base: 100, Tax: 19, Deduct: 19}, "input P 1900 100 19 0 19"},
		{api.Row{Treat: api.Distance, Sale: true, Rate: 2000, State: "FR", Base: 5, Tax: 1}, "distance S 2000 5 1 0 0"},
		{api.Row{Treat: api.Adjusted, Deduct: -16, Period: january}, "adjusted P 0 0 0 0 -16 L"},
		{api.Row{}, " P 0 0 0 0 0"},
		{api.Row{Treat: 16, Sale: true}, " S 0 0 0 0 0"},
		{api.Row{Treat: -1, Rate: -5, Period: january}, " P -5 0 0 0 0 L"},
		{api.Row{Treat: api.Import, Base: math.MinInt, Tax: math.MaxInt, Deduct: math.MinInt, Rate: math.MinInt}, "import P -9223372036854775808 -9223372036854775808 9223372036854775807 9223372036854775807 -9223372036854775808"},
	} {
		if got := entry.Line(x.r); got != x.want {
			t.Errorf("%v: %q, not %q", x.r, got, x.want)
		}
	}
}

// P25.4: a line begins with the treatment's own name.
func TestLineOfEachTreatment(t *testing.T) {
	for k := api.Home; k <= api.Adjusted; k++ {
		if got, want := entry.Line(api.Row{Treat: k}), names[k-1]+" P 0 0 0 0 0"; got != want {
			t.Errorf("%q, not %q", got, want)
		}
	}
}
