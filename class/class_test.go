package class_test

import (
	"math"
	"math/big"
	"math/rand"
	"slices"
	"strings"
	"testing"
	"time"

	"octroi/api"
	"octroi/class"
	"octroi/people"
	"octroi/place"
	"octroi/threshold"
	"octroi/timeline"
	"octroi/treat"
)

const (
	limit = 1000000
	day   = 19000 // 2022-01-08
	fr    = "12345678901"
	frDay = 18990 // from when on to when that number is valid in most tests
	frEnd = 19010
)

var (
	members     = strings.Fields("AT BE BG CY CZ DE DK EE EL ES FI FR HR HU IE IT LT LU LV MT NL PL PT RO SE SI SK")
	noMembers   = []string{"", "US", "GB", "GR", "de", "DEU", "D", "XX"}
	noCountries = []string{"", "D", "DEU", "de", "D1", "\xff\xff", "ÄT"}
	noDays      = []int{-1, math.MinInt, api.MaxDay + 1, math.MaxInt}
	noAmounts   = []int{api.MaxMoney + 1, -api.MaxMoney - 1, math.MinInt, math.MaxInt}
	either      = []bool{false, true}

	noLines = []api.Line{
		{}, {Supply: api.Service}, {Category: api.Standard}, {Supply: 8, Category: api.Standard}, {Supply: api.Service, Category: 6},
		{Supply: api.Goods, Category: api.Standard}, {Supply: api.Goods, Category: api.Standard, From: "DE", To: "fr"}, {Supply: api.Goods, Category: api.Standard, From: "DE", To: "FR", Place: "DE"},
		{Supply: api.Event, Category: api.Standard}, {Supply: api.Service, Category: api.Standard, Place: "DE"}, {Supply: api.Service, Category: api.Standard, Amount: -1},
		{Supply: api.Service, Category: api.Standard, Amount: api.MaxWeight + 1}, {Supply: api.Service, Category: api.Standard, Cost: 1}, {Supply: api.SecondHand, Category: api.Standard, From: "DE", To: "DE"},
	}
)

type span = timeline.Span

func over(from, until int) span { return span{From: from, Until: until} }

func check[T comparable](t *testing.T, got, want T, what ...any) {
	t.Helper()
	if got != want {
		t.Fatalf("%+v: %+v, not %+v", what, got, want)
	}
}

// folk tells people of a home state.
func folk(t *testing.T, home string) *people.People {
	t.Helper()
	p := people.New(home)
	if p == nil {
		t.Fatal("no people of", home)
	}
	return p
}

// desk tells a desk of these.
func desk(t *testing.T, p *people.People, x *threshold.Total) *class.Desk {
	t.Helper()
	k := class.New(p, x)
	if k == nil {
		t.Fatal("no desk of", p.Home())
	}
	return k
}

// made tells a desk of a home state, and what it is a desk of: of FR one number is valid.
func made(t *testing.T, home string) (*class.Desk, *people.People, *threshold.Total) {
	t.Helper()
	p, x := folk(t, home), threshold.New()
	check(t, p.Status("FR", fr, over(frDay, frEnd)), api.OK, "status")
	return desk(t, p, x), p, x
}

// put holds an amount to be added to a year.
func put(t *testing.T, x *threshold.Total, year, amount int) {
	t.Helper()
	check(t, x.Add(year, amount), api.OK, "add", year, amount)
}

// dayOf tells a day's number, by the library.
func dayOf(year, month, day int) int {
	return int(time.Date(year, time.Month(month), day, 0, 0, 0, 0, time.UTC).Unix() / (24 * 60 * 60))
}

// sale and purchase tell a document with somebody; just what a desk asks of it.
func sale(country, number string) api.Doc {
	return api.Doc{Sale: true, Day: day, Country: country, Number: number}
}

func purchase(country, number string) api.Doc {
	return api.Doc{Day: day, Country: country, Number: number}
}

// on tells a document of another day.
func on(day int, d api.Doc) api.Doc {
	d.Day = day
	return d
}

// goods, local and done tell lines.
func goods(supply int, from, to string) api.Line {
	return api.Line{Supply: supply, Category: api.Standard, From: from, To: to, Amount: 1000, Gross: supply == api.SecondHand}
}

func local(supply int, where string) api.Line {
	return api.Line{Supply: supply, Category: api.Standard, Place: where, Amount: 1000}
}

func done(supply int) api.Line {
	return api.Line{Supply: supply, Category: api.Standard, Amount: 1000}
}

func exempt(l api.Line) api.Line {
	l.Category = api.Exempt
	return l
}

// book is what is sold at a distance, from DE to FR.
func book() api.Line { return goods(api.Goods, "DE", "FR") }

// verdict tells one: whether it counts hangs on the treatment alone.
func verdict(treatment int, state string) class.Verdict {
	return class.Verdict{Treat: treatment, State: state, Counts: treatment == api.Distance || treatment == api.Below}
}

// checkCase holds just that case, or that error, to be told.
func checkCase(t *testing.T, k *class.Desk, d api.Doc, l api.Line, net int, want api.Case, wantE api.Errno, what ...any) {
	t.Helper()
	c, e := k.Case(d, l, net)
	check(t, e, wantE, what, "error of the case of", d, l, net)
	check(t, c, want, what, "case of", d, l, net)
}

// checkOf holds just that verdict, or that error, to be told.
func checkOf(t *testing.T, k *class.Desk, d api.Doc, l api.Line, net int, want class.Verdict, wantE api.Errno, what ...any) {
	t.Helper()
	v, e := k.Of(d, l, net)
	check(t, e, wantE, what, "error of", d, l, net)
	check(t, v, want, what, "of", d, l, net)
}

// checkTake holds just that verdict, or that error, to be told, when the line is counted.
func checkTake(t *testing.T, k *class.Desk, d api.Doc, l api.Line, net int, want class.Verdict, wantE api.Errno, what ...any) {
	t.Helper()
	v, e := k.Take(d, l, net)
	check(t, e, wantE, what, "error of take of", d, l, net)
	check(t, v, want, what, "take of", d, l, net)
}

// checkSums holds a total to be just that of these years.
func checkSums(t *testing.T, x *threshold.Total, want map[int]int, what ...any) {
	t.Helper()
	var years []int
	for year, sum := range want {
		check(t, x.Of(year), sum, what, "total of", year)
		if sum != 0 {
			years = append(years, year)
		}
	}
	slices.Sort(years)
	if got := x.Years(); !slices.Equal(got, years) {
		t.Fatalf("%v: years %v, not %v", what, got, years)
	}
}

// P20.2
func TestExample(t *testing.T) {
	k, _, x := made(t, "DE")
	checkTake(t, k, sale("FR", ""), book(), 900000, verdict(api.Below, "DE"), api.OK)
	checkTake(t, k, sale("FR", ""), book(), 100001, verdict(api.Distance, "FR"), api.OK)
	checkSums(t, x, map[int]int{2022: 1000001})
}

// P20.1
func TestNew(t *testing.T) {
	x := threshold.New()
	for _, home := range members {
		k := desk(t, folk(t, home), x)
		c := api.Case{Sale: true, Supply: api.Service}
		if home != "FR" {
			c.Party = api.ZoneUnion
		}
		c.Business = home == "FR"
		checkCase(t, k, sale("FR", fr), done(api.Service), 0, c, api.OK, "home", home)
	}
	var nobody *people.People
	var nothing *threshold.Total
	for what, p := range map[string]*people.People{"nil": nobody, "plain": {}, "new": new(people.People), "of a third country": people.New("US")} {
		for _, x := range []*threshold.Total{x, nothing, {}} {
			if class.New(p, x) != nil {
				t.Error("a desk of people that are", what)
			}
		}
	}
	if class.New(folk(t, "DE"), nothing) != nil {
		t.Error("a desk of no total")
	}
}

// P20.1
func TestDeskOfAPlainTotal(t *testing.T) {
	k := desk(t, folk(t, "DE"), new(threshold.Total)) // it is not nil; its own error comes when it is asked
	refused := func(d api.Doc, l api.Line, net int, want api.Errno) {
		t.Helper()
		checkCase(t, k, d, l, net, api.Case{}, want)
		checkOf(t, k, d, l, net, class.Verdict{}, want)
		checkTake(t, k, d, l, net, class.Verdict{}, want)
	}
	refused(sale("FR", ""), book(), 5, api.ErrNil)
	refused(sale("FR", ""), book(), math.MaxInt, api.ErrNil)
	refused(on(-1, sale("FR", "")), book(), 5, api.ErrRange)
	refused(sale("FR", ""), api.Line{}, 5, api.ErrArg)
	refused(sale("", ""), api.Line{}, 5, api.ErrName)
}

// P20.1, P20.2
func TestNoDesk(t *testing.T) {
	var none *class.Desk
	for what, k := range map[string]*class.Desk{"nil": none, "plain": {}, "new": new(class.Desk)} {
		for _, d := range []api.Doc{{}, sale("FR", ""), purchase("US", "77"), on(-1, sale("FR", "")), sale("", "")} {
			for _, l := range append(noLines, book(), done(api.Service)) {
				for _, net := range append(noAmounts, 0, 5) {
					checkCase(t, k, d, l, net, api.Case{}, api.ErrNil, what)
					checkOf(t, k, d, l, net, class.Verdict{}, api.ErrNil, what)
					checkTake(t, k, d, l, net, class.Verdict{}, api.ErrNil, what)
				}
			}
		}
	}
}

// P20.1, P20.2
func TestErrorsInOrder(t *testing.T) {
	k, p, x := made(t, "DE")
	put(t, x, 2022, api.MaxMoney)
	put(t, x, 2023, -api.MaxMoney)
	put(t, x, 2024, 7)
	refused := func(d api.Doc, l api.Line, net int, want api.Errno) {
		t.Helper()
		checkCase(t, k, d, l, net, api.Case{}, want)
		checkOf(t, k, d, l, net, class.Verdict{}, want)
		checkTake(t, k, d, l, net, class.Verdict{}, want)
		checkSums(t, x, map[int]int{2022: api.MaxMoney, 2023: -api.MaxMoney, 2024: 7}, "behind", d, l, net)
	}
	of2022, of2023, of2024 := day, dayOf(2023, 5, 5), dayOf(2024, 12, 31)
	days := append([]int{of2022, of2023, of2024, 0, api.MaxDay}, noDays...)
	nets := append([]int{0, 1, -1, api.MaxMoney, -api.MaxMoney}, noAmounts...)
	for _, opted := range either {
		for _, number := range []string{"", fr} {
			for _, at := range days {
				for _, net := range nets {
					for _, country := range noCountries {
						refused(on(at, sale(country, number)), book(), net, api.ErrName)
						refused(on(at, sale(country, number)), api.Line{}, net, api.ErrName)
					}
					for _, l := range noLines {
						refused(on(at, sale("FR", number)), l, net, api.ErrArg)
						refused(on(at, purchase("FR", number)), l, net, api.ErrArg)
					}
				}
			}
			for _, l := range []api.Line{book(), done(api.Service), exempt(book()), local(api.Event, "FR")} { // also of what does not count
				for _, net := range nets {
					for _, at := range noDays {
						refused(on(at, sale("FR", number)), l, net, api.ErrRange)
						refused(on(at, purchase("FR", number)), l, net, api.ErrRange)
					}
				}
				for _, at := range []int{of2022, of2023, of2024, 0, api.MaxDay} {
					for _, net := range noAmounts {
						refused(on(at, sale("FR", number)), l, net, api.ErrArg)
					}
				}
				refused(on(of2022, sale("FR", number)), l, 1, api.ErrOver)
				refused(on(of2023, sale("FR", number)), l, -1, api.ErrOver)
				refused(on(of2024, sale("FR", number)), l, api.MaxMoney-6, api.ErrOver)
			}
		}
		if !opted {
			check(t, p.Opt(over(0, api.MaxDay)), api.OK, "the choice") // it hides no error
		}
	}
	mixed := done(api.Service) // of a purchase alone
	mixed.Mixed = true
	refused(sale("US", ""), mixed, 0, api.ErrArg)
	checkOf(t, k, purchase("DE", ""), mixed, 0, verdict(api.Input, "DE"), api.OK)
}

// treatRow says what a line is told to be, seen from DE.
type treatRow struct {
	d     api.Doc
	l     api.Line
	over  bool // the line brings the year's total above the limit
	want  int
	state string
}

// saleRows are sales to a private person, or to a business, of FR, and to others.
func saleRows() []treatRow {
	private, business, us, de := sale("FR", ""), sale("FR", fr), sale("US", "77"), sale("DE", "123456789")
	return []treatRow{
		{private, book(), false, api.Below, "DE"}, {private, book(), true, api.Distance, "FR"},
		{private, goods(api.Goods, "DE", "IT"), true, api.Distance, "IT"}, {us, goods(api.Goods, "DE", "EL"), false, api.Intra, ""},
		{sale("US", ""), goods(api.Goods, "DE", "EL"), true, api.Distance, "EL"}, {sale("DE", ""), goods(api.Goods, "DE", "EL"), true, api.Distance, "EL"},
		{business, book(), false, api.Intra, ""}, {business, book(), true, api.Intra, ""},
		{private, goods(api.Goods, "DE", "DE"), false, api.Home, "DE"}, {business, goods(api.Goods, "DE", "DE"), true, api.Home, "DE"},
		{private, goods(api.Goods, "DE", "US"), false, api.Export, ""}, {business, goods(api.Goods, "DE", "US"), true, api.Export, ""},
		{private, goods(api.Goods, "FR", "DE"), true, api.Abroad, ""}, {private, goods(api.Goods, "US", "FR"), false, api.Abroad, ""},
		{private, goods(api.SecondHand, "DE", "FR"), true, api.Margin, "DE"}, {business, goods(api.SecondHand, "DE", "DE"), false, api.Margin, "DE"},
		{private, goods(api.SecondHand, "DE", "US"), false, api.Export, ""}, {private, goods(api.SecondHand, "FR", "DE"), false, api.Abroad, ""},
		{private, done(api.Service), false, api.Home, "DE"}, {private, done(api.Service), true, api.Home, "DE"}, {de, done(api.Service), false, api.Home, "DE"},
		{business, done(api.Service), true, api.Reverse, ""}, {us, done(api.Service), false, api.Outside, ""}, {sale("US", ""), done(api.Service), true, api.Outside, ""},
		{private, done(api.Electronic), false, api.Below, "DE"}, {private, done(api.Electronic), true, api.Distance, "FR"},
		{business, done(api.Electronic), true, api.Reverse, ""}, {us, done(api.Electronic), false, api.Outside, ""}, {de, done(api.Electronic), true, api.Home, "DE"},
		{business, local(api.Property, "DE"), true, api.Home, "DE"}, {private, local(api.Event, "FR"), true, api.Abroad, ""}, {us, local(api.Transport, "US"), false, api.Abroad, ""}, {us, local(api.Transport, "DE"), false, api.Home, "DE"},
		{private, exempt(book()), true, api.Freed, ""}, {private, exempt(book()), false, api.Freed, ""}, {de, exempt(done(api.Service)), false, api.Freed, ""}, {private, exempt(goods(api.SecondHand, "DE", "DE")), false, api.Freed, ""},
	}
}

// purchaseRows are purchases likewise.
func purchaseRows() []treatRow {
	private, business, us, de := purchase("FR", ""), purchase("FR", fr), purchase("US", "77"), purchase("DE", "123456789")
	return []treatRow{
		{de, goods(api.Goods, "DE", "DE"), false, api.Input, "DE"}, {purchase("DE", ""), goods(api.Goods, "DE", "DE"), true, api.Input, "DE"},
		{business, goods(api.Goods, "FR", "DE"), false, api.Acquisition, "DE"}, {business, goods(api.Goods, "IT", "DE"), true, api.Acquisition, "DE"}, {private, goods(api.Goods, "FR", "DE"), false, api.Abroad, ""},
		{us, goods(api.Goods, "US", "DE"), false, api.Import, "DE"}, {private, goods(api.Goods, "US", "DE"), true, api.Import, "DE"}, {business, goods(api.Goods, "DE", "FR"), true, api.Abroad, ""},
		{de, goods(api.SecondHand, "DE", "DE"), false, api.Margin, ""}, {private, goods(api.SecondHand, "FR", "DE"), true, api.Margin, ""}, {us, goods(api.SecondHand, "US", "DE"), false, api.Import, "DE"}, {de, goods(api.SecondHand, "DE", "FR"), false, api.Abroad, ""},
		{de, done(api.Service), false, api.Input, "DE"}, {business, done(api.Service), true, api.Received, "DE"}, {us, done(api.Electronic), false, api.Received, "DE"},
		{private, done(api.Service), false, api.Abroad, ""}, {purchase("US", ""), done(api.Electronic), true, api.Abroad, ""}, {purchase("DE", ""), done(api.Electronic), true, api.Input, "DE"},
		{de, local(api.Property, "DE"), false, api.Input, "DE"}, {business, local(api.Event, "DE"), true, api.Received, "DE"}, {private, local(api.Transport, "DE"), false, api.Abroad, ""}, {business, local(api.Property, "FR"), false, api.Abroad, ""},
		{de, exempt(done(api.Service)), false, api.Freed, ""}, {business, exempt(goods(api.Goods, "FR", "DE")), true, api.Freed, ""}, {us, exempt(goods(api.Goods, "US", "DE")), false, api.Freed, ""},
	}
}

// P20.2
func TestEachTreatment(t *testing.T) {
	var told []int
	for _, r := range slices.Concat(saleRows(), purchaseRows()) {
		k, _, x := made(t, "DE")
		put(t, x, 2022, limit-500)
		net, sums := 500, map[int]int{2022: limit - 500}
		if r.over {
			net = 501
		}
		want := verdict(r.want, r.state)
		checkOf(t, k, r.d, r.l, net, want, api.OK)
		checkSums(t, x, sums, "behind Of of", r)
		checkTake(t, k, r.d, r.l, net, want, api.OK)
		if r.want == api.Distance || r.want == api.Below {
			sums[2022] += net
		}
		checkSums(t, x, sums, "behind Take of", r)
		if !slices.Contains(told, r.want) {
			told = append(told, r.want)
		}
	}
	check(t, len(told), api.Import, "treatments")
}

// P20.1
func TestWhatADeskAsksOfADocument(t *testing.T) {
	k, _, x := made(t, "DE")
	other := api.Doc{ID: strings.Repeat("x", 99), Credit: true, Refers: "y", Currency: "?", Lines: []api.Line{{Supply: 77}}} // it need not be one that may be
	for _, r := range slices.Concat(saleRows(), purchaseRows()) {
		d := other
		d.Sale, d.Day, d.Country, d.Number = r.d.Sale, r.d.Day, r.d.Country, r.d.Number
		c, e := k.Case(r.d, r.l, 5)
		checkCase(t, k, d, r.l, 5, c, e, "of another document")
		v, e := k.Of(r.d, r.l, 5)
		checkOf(t, k, d, r.l, 5, v, e, "of another document")
	}
	check(t, other.Lines[0], api.Line{Supply: 77}, "its lines")
	checkSums(t, x, nil, "behind all")
}

// P20.1
func TestBusinessIsAskedOnTheDay(t *testing.T) {
	k, p, _ := made(t, "DE")
	c := api.Case{Sale: true, Supply: api.Goods, To: api.ZoneUnion, Party: api.ZoneUnion}
	at := func(day int, number string, business bool, want class.Verdict) {
		t.Helper()
		c.Business = business
		checkCase(t, k, on(day, sale("FR", number)), book(), 5, c, api.OK)
		checkOf(t, k, on(day, sale("FR", number)), book(), 5, want, api.OK)
	}
	below, intra := verdict(api.Below, "DE"), verdict(api.Intra, "")
	for _, day := range []int{0, frDay - 1, frEnd + 1, api.MaxDay} {
		at(day, fr, false, below)
	}
	for _, day := range []int{frDay, frDay + 1, day, frEnd - 1, frEnd} {
		at(day, fr, true, intra)
		at(day, "", false, below)
		at(day, "12345678902", false, below) // a number that nobody told of
		at(day, "1234567890", false, below)  // one that is not right
		at(day, "FR"+fr, false, below)
	}
	check(t, p.Status("FR", fr, over(frEnd+1, frEnd+1)), api.OK, "status") // what is told of people later is known
	at(frEnd+1, fr, true, intra)
	at(frEnd+2, fr, false, below)
}

// P20.1
func TestBusinessAtHomeAndInThirdCountries(t *testing.T) {
	k, _, _ := made(t, "DE")
	for _, at := range []int{0, day, api.MaxDay} {
		for _, x := range []struct {
			country, number string
			zone            int
			business        bool
		}{
			{"DE", "123456789", api.ZoneHome, true}, {"DE", "12345678", api.ZoneHome, false}, {"DE", "", api.ZoneHome, false},
			{"US", "7", api.ZoneThird, true}, {"US", "7 7", api.ZoneThird, false}, {"US", "", api.ZoneThird, false}, {"GR", "7", api.ZoneThird, true},
			{"EL", "123456789", api.ZoneUnion, false}, {"IT", "12345678901", api.ZoneUnion, false},
		} {
			c := api.Case{Sale: true, Supply: api.Electronic, Party: x.zone, Business: x.business}
			checkCase(t, k, on(at, sale(x.country, x.number)), done(api.Electronic), 0, c, api.OK)
			c.Sale = false
			checkCase(t, k, on(at, purchase(x.country, x.number)), done(api.Electronic), 0, c, api.OK)
		}
	}
}

// P20.1
func TestTheChoiceOnTheDay(t *testing.T) {
	k, p, _ := made(t, "DE")
	check(t, p.Opt(over(19000, 19002)), api.OK, "the choice")
	for at := 18998; at <= 19004; at++ {
		want, c := verdict(api.Below, "DE"), api.Case{Sale: true, Supply: api.Electronic, Party: api.ZoneUnion}
		if 19000 <= at && at <= 19002 {
			want, c.Over = verdict(api.Distance, "IT"), true
		}
		checkCase(t, k, on(at, sale("IT", "")), done(api.Electronic), 1, c, api.OK)
		checkOf(t, k, on(at, sale("IT", "")), done(api.Electronic), 1, want, api.OK)
		checkTake(t, k, on(at, sale("IT", "")), done(api.Electronic), 1, want, api.OK)
	}
	check(t, p.Opt(over(19004, 19004)), api.OK, "the choice, later")
	checkOf(t, k, on(19004, sale("IT", "")), done(api.Electronic), 1, verdict(api.Distance, "IT"), api.OK)
}

// P20.1, P20.2
func TestOverIsToldOfEachLine(t *testing.T) {
	for _, r := range slices.Concat(saleRows(), purchaseRows()) { // also of those that do not count
		k, p, x := made(t, "DE")
		c, e := place.Case("DE", r.d, r.l)
		check(t, e, api.OK, r)
		c.Business = p.Business(r.d.Country, r.d.Number, r.d.Day)
		for _, net := range []int{0, limit, limit + 1, -limit - 1, api.MaxMoney, -api.MaxMoney} {
			c.Over = net > limit
			checkCase(t, k, r.d, r.l, net, c, api.OK)
		}
		put(t, x, 2021, limit+1)
		c.Over = true
		checkCase(t, k, r.d, r.l, 0, c, api.OK, "behind a year above the limit")
	}
}

// P20.1, P20.2
func TestTheYearOfTheDay(t *testing.T) {
	for _, year := range []int{1970, 1971, 2020, 2022, 2024, 9998, 9999} {
		first, last := dayOf(year, 1, 1), dayOf(year, 12, 31)
		for _, at := range []int{first, first + 1, dayOf(year, 2, 28) + 1, last - 1, last} {
			k, _, x := made(t, "DE")
			checkTake(t, k, on(at, sale("IT", "")), book(), 5, verdict(api.Below, "DE"), api.OK, year)
			checkSums(t, x, map[int]int{year: 5}, "day", at)
		}
		k, _, x := made(t, "DE")
		put(t, x, year, limit)
		for at, want := range map[int]bool{first - 1: false, first: true, last: true, last + 1: false} {
			if at < 0 || at > api.MaxDay {
				continue
			}
			treatment, state := api.Below, "DE"
			if want {
				treatment, state = api.Distance, "FR"
			}
			checkOf(t, k, on(at, sale("IT", "")), book(), 1, verdict(treatment, state), api.OK, "of", year)
		}
	}
}

// P20.1
func TestTheYearAhead(t *testing.T) {
	k, _, x := made(t, "DE")
	below, distance := verdict(api.Below, "DE"), verdict(api.Distance, "FR")
	put(t, x, 2022, limit+1)
	for at, want := range map[int]class.Verdict{
		dayOf(2021, 12, 31): below, dayOf(2022, 1, 1): distance, dayOf(2022, 12, 31): distance,
		dayOf(2023, 1, 1): distance, dayOf(2023, 12, 31): distance, dayOf(2024, 1, 1): below,
	} {
		checkOf(t, k, on(at, sale("FR", "")), book(), 0, want, api.OK)
	}
	put(t, x, 2022, -1) // what is told of the total later is known
	checkOf(t, k, on(dayOf(2023, 1, 1), sale("FR", "")), book(), limit, below, api.OK)
	checkOf(t, k, on(dayOf(2022, 1, 1), sale("FR", "")), book(), 0, below, api.OK)
}

// P20.2
func TestTakeCounts(t *testing.T) {
	k, _, x := made(t, "DE")
	other := x.Clone()
	private := sale("FR", "")
	checkTake(t, k, private, book(), 600000, verdict(api.Below, "DE"), api.OK)
	checkTake(t, k, private, book(), 0, verdict(api.Below, "DE"), api.OK)
	checkTake(t, k, sale("FR", fr), book(), 700000, verdict(api.Intra, ""), api.OK)
	checkTake(t, k, private, done(api.Electronic), 400000, verdict(api.Below, "DE"), api.OK)
	checkSums(t, x, map[int]int{2022: limit}, "just the limit")
	checkTake(t, k, private, book(), 1, verdict(api.Distance, "FR"), api.OK)
	checkTake(t, k, private, book(), -1, verdict(api.Below, "DE"), api.OK) // with which the total is the limit
	checkTake(t, k, private, book(), -limit, verdict(api.Below, "DE"), api.OK)
	checkSums(t, x, nil, "all was taken back")
	checkTake(t, k, private, book(), -api.MaxMoney, verdict(api.Below, "DE"), api.OK)
	checkTake(t, k, private, book(), -1, class.Verdict{}, api.ErrOver)
	checkSums(t, x, map[int]int{2022: -api.MaxMoney}, "the least total")
	checkTake(t, k, private, book(), api.MaxMoney, verdict(api.Below, "DE"), api.OK)
	checkTake(t, k, private, book(), api.MaxMoney, verdict(api.Distance, "FR"), api.OK)
	checkTake(t, k, private, book(), 1, class.Verdict{}, api.ErrOver)
	checkTake(t, k, sale("DE", ""), done(api.Service), 1, class.Verdict{}, api.ErrOver) // whether it counts or not
	checkSums(t, x, map[int]int{2022: api.MaxMoney}, "the greatest total")
	checkSums(t, other, nil, "a clone of what was handed in")
}

// P20.2
func TestTwoDesksOfOneTotal(t *testing.T) {
	p, x := folk(t, "DE"), threshold.New()
	one, two := desk(t, p, x), desk(t, p, x)
	checkTake(t, one, sale("FR", ""), book(), 600000, verdict(api.Below, "DE"), api.OK)
	checkTake(t, two, sale("FR", ""), book(), 400001, verdict(api.Distance, "FR"), api.OK)
	checkOf(t, one, sale("FR", ""), book(), 0, verdict(api.Distance, "FR"), api.OK)
	apart := desk(t, p, x.Clone())
	checkTake(t, apart, sale("FR", ""), book(), -500000, verdict(api.Below, "DE"), api.OK)
	checkSums(t, x, map[int]int{2022: 1000001})
}

// P20.1, P20.2
func TestOfAndCaseChangeNothing(t *testing.T) {
	k, p, x := made(t, "DE")
	put(t, x, 2022, 600000)
	for range 3 {
		for _, r := range slices.Concat(saleRows(), purchaseRows()) {
			for _, net := range []int{400001, -600000, 1, 0} {
				k.Case(r.d, r.l, net)
				k.Of(r.d, r.l, net)
			}
		}
	}
	checkSums(t, x, map[int]int{2022: 600000})
	check(t, p.Opted(day), false, "the choice")
	check(t, strings.Join(p.Known(), " "), "FR"+fr, "known")
}

// P20.3
func TestFromTheFirst(t *testing.T) {
	c := rand.New(rand.NewSource(203))
	countries := []string{"FR", "IT", "EL"}
	for range 100 {
		k, p, x := made(t, "DE")
		sum, passed := 0, 0
		for passed < 10 {
			country, l, net := countries[c.Intn(len(countries))], done(api.Electronic), c.Intn(200000)
			if c.Intn(2) == 0 {
				l = goods(api.Goods, "DE", country)
			}
			d := on(dayOf(2022, 1+c.Intn(12), 1+c.Intn(28)), sale(country, "")) // in whatever order of days
			want := verdict(api.Below, "DE")
			if sum += net; sum > limit {
				want = verdict(api.Distance, country)
				passed++
			}
			checkTake(t, k, d, l, net, want, api.OK, "total", sum)
			checkTake(t, k, sale("FR", fr), book(), 900000, verdict(api.Intra, ""), api.OK) // what does not count brings nothing nearer
		}
		checkSums(t, x, map[int]int{2022: sum})
		checkOf(t, k, on(dayOf(2023, 6, 1), sale("FR", "")), book(), 0, verdict(api.Distance, "FR"), api.OK)
		check(t, p.Opted(day), false, "the choice")
	}
}

// P20.2
func TestEachHomeState(t *testing.T) {
	for _, home := range members {
		away := "FR"
		if home == away {
			away = "DE"
		}
		k, private := desk(t, folk(t, home), threshold.New()), sale(away, "")
		checkOf(t, k, private, goods(api.Goods, home, away), limit, verdict(api.Below, home), api.OK, home)
		checkOf(t, k, private, goods(api.Goods, home, away), limit+1, verdict(api.Distance, away), api.OK, home)
		checkOf(t, k, private, done(api.Electronic), limit+1, verdict(api.Distance, away), api.OK, home)
		checkOf(t, k, private, goods(api.SecondHand, home, away), 0, verdict(api.Margin, home), api.OK, home)
		checkOf(t, k, private, done(api.Service), 0, verdict(api.Home, home), api.OK, home)
		checkOf(t, k, purchase(home, ""), done(api.Service), 0, verdict(api.Input, home), api.OK, home)
		checkOf(t, k, purchase("US", "7"), done(api.Service), 0, verdict(api.Received, home), api.OK, home)
		checkOf(t, k, purchase("US", "7"), goods(api.Goods, "US", home), 0, verdict(api.Import, home), api.OK, home)
	}
	for _, home := range noMembers {
		if class.New(people.New(home), threshold.New()) != nil {
			t.Errorf("a desk of %q", home)
		}
	}
}

// status is that somebody's number is valid.
type status struct {
	country, number string
	s               span
}

// model is what a desk knows, word for word as the document says it: what was sold in whole numbers without a bound.
type model struct {
	home     string
	statuses []status
	choices  []span
	sold     map[int]*big.Int
}

func within(s span, day int) bool { return s.From <= day && day <= s.Until }

// isBusiness tells whether somebody of the model's world is a taxable person: numbers are right there, or nothing.
func (m *model) isBusiness(country, number string, day int) bool {
	if number == "" {
		return false
	}
	if country == m.home || !slices.Contains(members, country) {
		return true
	}
	return slices.ContainsFunc(m.statuses, func(x status) bool { return x.country == country && x.number == number && within(x.s, day) })
}

// of tells a year's total.
func (m *model) of(year int) *big.Int {
	if m.sold[year] == nil {
		return new(big.Int)
	}
	return m.sold[year]
}

// isOver tells whether the limit is passed with an amount, and whether that can be told.
func (m *model) isOver(year, day, net int) (bool, api.Errno) {
	sum := new(big.Int).Add(m.of(year), big.NewInt(int64(net)))
	if net > 1<<62 || net < -1<<62 {
		return false, api.ErrArg
	}
	if sum.CmpAbs(big.NewInt(1<<62)) > 0 {
		return false, api.ErrOver
	}
	bound := big.NewInt(limit)
	chosen := slices.ContainsFunc(m.choices, func(s span) bool { return within(s, day) })
	return chosen || m.of(year-1).Cmp(bound) > 0 || sum.Cmp(bound) > 0, api.OK
}

// caseOf tells the case of a line that is right.
func (m *model) caseOf(d api.Doc, l api.Line, net int) (c api.Case, year int, e api.Errno) {
	if d.Day < 0 || d.Day > 2932896 {
		return api.Case{}, 0, api.ErrRange
	}
	year = time.Unix(int64(d.Day)*24*60*60, 0).UTC().Year()
	over, e := m.isOver(year, d.Day, net)
	if e != api.OK {
		return api.Case{}, 0, e
	}
	c, e = place.Case(m.home, d, l)
	c.Business, c.Over = m.isBusiness(d.Country, d.Number, d.Day), over
	return c, year, e
}

// verdictOf tells the verdict of a line of that case.
func (m *model) verdictOf(d api.Doc, l api.Line, c api.Case) class.Verdict {
	t, _ := treat.Of(c)
	v := verdict(t, "")
	switch treat.Name(t) {
	case "home", "below", "input", "acquisition", "received", "import":
		v.State = m.home
	case "margin":
		if d.Sale {
			v.State = m.home
		}
	case "distance":
		v.State = d.Country
		if l.Supply == api.Goods {
			v.State = l.To
		}
	}
	return v
}

// lineOf tells a line of a document by chance, that may be; home is where many of them begin or end.
func lineOf(c *rand.Rand, home string, countries []string) api.Line {
	where := func() string {
		if c.Intn(2) == 0 {
			return home
		}
		return countries[c.Intn(len(countries))]
	}
	supply := []int{1, 1, 1, 2, 3, 4, 5, 6, 6, 7}[c.Intn(10)]
	l := done(supply)
	switch supply {
	case api.Goods, api.SecondHand:
		l = goods(supply, where(), where())
	case api.Property, api.Event, api.Transport:
		l = local(supply, where())
	}
	l.Category = []int{1, 1, 1, 2, 3, 4, 5}[c.Intn(7)]
	return l
}

// netOf tells an amount by chance; some of them are none.
func netOf(c *rand.Rand) int {
	switch c.Intn(100) {
	case 0, 1:
		return noAmounts[c.Intn(len(noAmounts))]
	case 2:
		return []int{api.MaxMoney, -api.MaxMoney, 1 - api.MaxMoney, limit, limit + 1}[c.Intn(5)]
	}
	return c.Intn(limit/2) - limit/10
}

// dayBy tells a day by chance; some of them are none.
func dayBy(c *rand.Rand) int {
	switch c.Intn(30) {
	case 0:
		return noDays[c.Intn(len(noDays))]
	case 1:
		return []int{0, api.MaxDay, dayOf(2022, 12, 31), dayOf(2023, 1, 1)}[c.Intn(4)]
	}
	return dayOf(2021, 1, 1) + c.Intn(3*365)
}

// P20.1, P20.2
func TestDesksAreTheModels(t *testing.T) {
	c := rand.New(rand.NewSource(20))
	numbers := map[string]string{"DE": "123456789", "FR": fr, "EL": "123456789", "IT": fr, "US": "7", "GR": "1"}
	countries := []string{"DE", "FR", "EL", "IT", "US", "GR"}
	for range 100 {
		m := &model{home: countries[c.Intn(4)], sold: map[int]*big.Int{}}
		p, x := folk(t, m.home), threshold.New()
		k := desk(t, p, x)
		for step := range 200 {
			country, from := countries[c.Intn(len(countries))], dayOf(2021, 1, 1)+c.Intn(3*365)
			s := over(from, from+c.Intn(600))
			switch c.Intn(12) {
			case 0:
				if p.Status(country, numbers[country], s) == api.OK {
					m.statuses = append(m.statuses, status{country, numbers[country], s})
				}
			case 1:
				if s.Until = from + c.Intn(30); p.Opt(s) == api.OK {
					m.choices = append(m.choices, s)
				}
			}
			d := api.Doc{Sale: c.Intn(3) > 0, Day: dayBy(c), Country: country}
			if c.Intn(2) == 0 {
				d.Number = numbers[country]
			}
			l, net := lineOf(c, m.home, countries), netOf(c)
			wantCase, year, e := m.caseOf(d, l, net)
			want := class.Verdict{}
			if e == api.OK {
				want = m.verdictOf(d, l, wantCase)
			}
			checkCase(t, k, d, l, net, wantCase, e, "step", step, "home", m.home)
			checkOf(t, k, d, l, net, want, e, "step", step, "home", m.home)
			checkTake(t, k, d, l, net, want, e, "step", step, "home", m.home)
			if want.Counts {
				m.sold[year] = new(big.Int).Add(m.of(year), big.NewInt(int64(net)))
			}
			for _, year := range []int{1970, 2020, 2021, 2022, 2023, 2024, 2025, 2026, 9999} {
				check(t, x.Of(year), int(m.of(year).Int64()), "step", step, "total of", year)
			}
		}
	}
}
