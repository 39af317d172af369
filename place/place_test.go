package place_test

import (
	"math"
	"slices"
	"strings"
	"testing"

	"octroi/api"
	"octroi/place"
)

var (
	members     = strings.Fields("AT BE BG CY CZ DE DK EE EL ES FI FR HR HU IE IT LT LU LV MT NL PL PT RO SE SI SK")
	thirds      = []string{"US", "CH", "GB", "GR", "AA", "ZZ"}
	noCountries = []string{"", "D", "DEU", "de", "De", "dE", "D ", " D", "D1", "11", "D\x00", "\xff\xff", "ÄT", "AT BE"}

	supplies   = []int{api.Goods, api.Service, api.Property, api.Event, api.Transport, api.Electronic, api.SecondHand}
	noSupplies = []int{0, -1, -7, 8, 9, math.MaxInt, math.MinInt, 256 + 1, 1<<32 + 3}
	either     = []bool{false, true}
)

func check[T comparable](t *testing.T, got, want T, what ...any) {
	t.Helper()
	if got != want {
		t.Fatalf("%+v: %+v, not %+v", what, got, want)
	}
}

// checkCase holds just that case, or that error, to be told.
func checkCase(t *testing.T, home string, d api.Doc, l api.Line, want api.Case, wantE api.Errno) {
	t.Helper()
	c, e := place.Case(home, d, l)
	check(t, e, wantE, "error of", home, d, l)
	check(t, c, want, "case of", home, d, l)
}

// checkState holds just that state, or that error, to be told.
func checkState(t *testing.T, home string, d api.Doc, l api.Line, c api.Case, want string, wantE api.Errno) {
	t.Helper()
	state, e := place.State(home, d, l, c)
	check(t, e, wantE, "error of", home, d, l, c)
	check(t, state, want, "state of", home, d, l, c)
}

// checkWrong holds both to tell that error.
func checkWrong(t *testing.T, home string, d api.Doc, l api.Line, want api.Errno) {
	t.Helper()
	checkCase(t, home, d, l, api.Case{}, want)
	for _, business := range either {
		for _, over := range either {
			checkState(t, home, d, l, api.Case{Business: business, Over: over}, "", want)
		}
	}
}

// with tells what a case says of the other party and of the threshold.
func with(business, over bool) api.Case { return api.Case{Business: business, Over: over} }

// zone is the model of a country's zone.
func zone(home, c string) int {
	switch {
	case c == home:
		return 0
	case slices.Contains(members, c):
		return 1
	}
	return 2
}

// isMoved and isLocal are the models of Moved and Local.
func isMoved(l api.Line) bool { return l.Supply == 1 || l.Supply == 7 }

func isLocal(l api.Line) bool { return l.Supply == 3 || l.Supply == 4 || l.Supply == 5 }

// caseOf is the model of the case of a line that is right.
func caseOf(home string, d api.Doc, l api.Line) api.Case {
	c := api.Case{Sale: d.Sale, Supply: l.Supply, Exempt: l.Category == 5, Party: zone(home, d.Country)}
	if isMoved(l) {
		c.From, c.To = zone(home, l.From), zone(home, l.To)
	}
	if isLocal(l) {
		c.Place = zone(home, l.Place)
	}
	return c
}

// stateOf is the model of the country in which a line that is right is supplied, word for word as the document says it.
func stateOf(home string, d api.Doc, l api.Line, business, over bool) string {
	if isLocal(l) {
		return l.Place
	}
	if d.Sale {
		return soldIn(home, d.Country, l, business, over)
	}
	return boughtIn(home, d.Country, l, business)
}

func soldIn(home, country string, l api.Line, business, over bool) string {
	party := zone(home, country)
	if l.Supply == 7 {
		return l.From
	}
	if l.Supply == 1 {
		if l.From == home && slices.Contains(members, l.To) && l.To != home && over && !business {
			return l.To
		}
		return l.From
	}
	if business || party == 2 || l.Supply == 6 && over && party == 1 {
		return country
	}
	return home
}

func boughtIn(home, country string, l api.Line, business bool) string {
	if l.Supply == 7 {
		return l.From
	}
	if l.Supply == 1 {
		if !slices.Contains(members, l.From) {
			return l.To
		}
		if business && slices.Contains(members, l.From) && l.From != l.To {
			return l.To
		}
		return l.From
	}
	if business || country == home {
		return home
	}
	return country
}

// lineOf tells a line of a supply, of no country yet.
func lineOf(supply, category int) api.Line {
	return api.Line{Supply: supply, Category: category, Amount: 1000, Gross: supply == api.SecondHand}
}

// linesOf tells each line of a supply that may be between these countries.
func linesOf(supply, category int, countries []string) []api.Line {
	line := lineOf(supply, category)
	var l []api.Line
	switch {
	case isMoved(line):
		for _, line.From = range countries {
			for _, line.To = range countries {
				l = append(l, line)
			}
		}
	case isLocal(line):
		for _, line.Place = range countries {
			l = append(l, line)
		}
	default:
		l = append(l, line)
	}
	return l
}

// eachRight goes over lines that are right, seen from a home state, of documents between these countries.
func eachRight(home string, categories []int, countries []string, do func(d api.Doc, l api.Line)) {
	for _, sale := range either {
		for _, country := range countries {
			for _, supply := range supplies {
				for _, category := range categories {
					for _, l := range linesOf(supply, category, countries) {
						do(api.Doc{Sale: sale, Country: country}, l)
					}
				}
			}
		}
	}
}

// P17.1
func TestMovedAndLocal(t *testing.T) {
	for _, supply := range append(supplies, noSupplies...) {
		for _, l := range []api.Line{{Supply: supply}, {Supply: supply, Category: 9, From: "DE", To: "x", Place: "FR", Amount: -1, Gross: true, Cost: -1, Mixed: true}} {
			check(t, place.Moved(l), supply == 1 || supply == 7, "moved", supply)
			check(t, place.Local(l), supply == 3 || supply == 4 || supply == 5, "local", supply)
		}
	}
}

// P17.1
func TestCase(t *testing.T) {
	sale := api.Doc{ID: "a", Sale: true, Country: "FR", Number: "12345678901"}
	purchase := api.Doc{ID: "a", Country: "US"}
	goods := api.Line{Supply: api.Goods, Category: api.Standard, From: "DE", To: "FR", Amount: 5}
	for _, x := range []struct {
		d    api.Doc
		l    api.Line
		want api.Case
	}{
		{sale, goods, api.Case{Sale: true, Supply: api.Goods, From: api.ZoneHome, To: api.ZoneUnion, Party: api.ZoneUnion}},
		{purchase, goods, api.Case{Supply: api.Goods, From: api.ZoneHome, To: api.ZoneUnion, Party: api.ZoneThird}},
		{sale, api.Line{Supply: api.SecondHand, Category: api.Exempt, From: "US", To: "DE", Gross: true, Cost: 7}, api.Case{Sale: true, Supply: api.SecondHand, Exempt: true, From: api.ZoneThird, Party: api.ZoneUnion}},
		{purchase, api.Line{Supply: api.Event, Category: api.Nought, Place: "IT", Mixed: true}, api.Case{Supply: api.Event, Party: api.ZoneThird, Place: api.ZoneUnion}},
		{sale, api.Line{Supply: api.Transport, Category: api.Low, Place: "CH"}, api.Case{Sale: true, Supply: api.Transport, Party: api.ZoneUnion, Place: api.ZoneThird}},
		{purchase, api.Line{Supply: api.Property, Category: api.Reduced, Place: "DE"}, api.Case{Supply: api.Property, Party: api.ZoneThird}},
		{sale, api.Line{Supply: api.Service, Category: api.Exempt}, api.Case{Sale: true, Supply: api.Service, Exempt: true, Party: api.ZoneUnion}},
		{api.Doc{Country: "DE"}, api.Line{Supply: api.Electronic, Category: api.Standard}, api.Case{Supply: api.Electronic}},
	} {
		checkCase(t, "DE", x.d, x.l, x.want, api.OK)
	}
}

// P17.1, P17.2, P17.3
func TestEachRightLine(t *testing.T) {
	countries := []string{"DE", "FR", "EL", "US", "GR"}
	for _, home := range []string{"DE", "EL", "FR", "SK"} { // of SK none of them is home
		eachRight(home, []int{1, 2, 3, 4, 5}, countries, func(d api.Doc, l api.Line) {
			checkCase(t, home, d, l, caseOf(home, d, l), api.OK)
			for _, business := range either {
				for _, over := range either {
					checkState(t, home, d, l, with(business, over), stateOf(home, d, l, business, over), api.OK)
				}
			}
		})
	}
}

// P17.1, P17.2
func TestEachHomeState(t *testing.T) {
	for _, home := range members {
		countries := []string{home, "AT", "DE", "SK", "US", "ZZ"}
		eachRight(home, []int{api.Standard}, countries, func(d api.Doc, l api.Line) {
			checkCase(t, home, d, l, caseOf(home, d, l), api.OK)
			checkState(t, home, d, l, with(true, false), stateOf(home, d, l, true, false), api.OK)
			checkState(t, home, d, l, with(false, true), stateOf(home, d, l, false, true), api.OK)
		})
	}
}

// P17.1
func TestEachZone(t *testing.T) {
	for _, home := range members {
		for _, c := range append(thirds, members...) {
			d, z := api.Doc{Sale: true, Country: c}, zone(home, c)
			checkCase(t, home, d, lineOf(api.Service, 1), api.Case{Sale: true, Supply: api.Service, Party: z}, api.OK)
			local := lineOf(api.Event, 1)
			local.Place = c
			checkCase(t, home, d, local, api.Case{Sale: true, Supply: api.Event, Party: z, Place: z}, api.OK)
			goods := lineOf(api.Goods, 1)
			goods.From, goods.To = c, home
			checkCase(t, home, d, goods, api.Case{Sale: true, Supply: api.Goods, From: z, Party: z}, api.OK)
			goods.From, goods.To = home, c
			checkCase(t, home, d, goods, api.Case{Sale: true, Supply: api.Goods, To: z, Party: z}, api.OK)
		}
	}
}

// stateRow says where a line is supplied, seen from DE: of goods From and To, of what is local Place, and, as words, what the case says.
type stateRow struct {
	supply          int
	from, to, where string
	country, says   string
	want            string
}

func (x stateRow) line() api.Line {
	l := lineOf(x.supply, api.Standard)
	l.From, l.To, l.Place = x.from, x.to, x.where
	return l
}

func checkRows(t *testing.T, sale bool, l []stateRow) {
	t.Helper()
	for _, x := range l {
		c := with(strings.Contains(x.says, "business"), strings.Contains(x.says, "over"))
		checkState(t, "DE", api.Doc{Sale: sale, Country: x.country}, x.line(), c, x.want, api.OK)
	}
}

// P17.2
func TestStateOfWhatIsLocal(t *testing.T) {
	for _, supply := range []int{api.Property, api.Event, api.Transport} {
		for _, where := range []string{"DE", "FR", "US"} {
			for _, country := range []string{"DE", "FR", "IT", "US", "CH"} {
				for _, says := range []string{"", "business", "over", "business, over"} {
					x := []stateRow{{supply, "", "", where, country, says, where}}
					checkRows(t, true, x)
					checkRows(t, false, x)
				}
			}
		}
	}
}

// P17.2
func TestStateOfASale(t *testing.T) {
	checkRows(t, true, []stateRow{
		{api.Goods, "DE", "FR", "", "FR", "", "DE"},
		{api.Goods, "DE", "FR", "", "FR", "over", "FR"},
		{api.Goods, "DE", "FR", "", "FR", "business", "DE"},
		{api.Goods, "DE", "FR", "", "FR", "business, over", "DE"},
		{api.Goods, "DE", "FR", "", "US", "over", "FR"}, // where it goes to, whoever buys
		{api.Goods, "DE", "FR", "", "DE", "over", "FR"},
		{api.Goods, "DE", "DE", "", "FR", "over", "DE"},
		{api.Goods, "DE", "US", "", "US", "over", "DE"},
		{api.Goods, "DE", "US", "", "FR", "over", "DE"},
		{api.Goods, "IT", "FR", "", "FR", "over", "IT"}, // from home alone
		{api.Goods, "IT", "DE", "", "DE", "over", "IT"},
		{api.Goods, "US", "FR", "", "FR", "over", "US"},
		{api.Goods, "US", "DE", "", "DE", "", "US"},
		{api.Goods, "US", "DE", "", "DE", "business, over", "US"},
		{api.SecondHand, "DE", "FR", "", "FR", "", "DE"},
		{api.SecondHand, "DE", "FR", "", "FR", "over", "DE"},
		{api.SecondHand, "DE", "FR", "", "FR", "business", "DE"},
		{api.SecondHand, "US", "FR", "", "FR", "over", "US"},
		{api.SecondHand, "IT", "DE", "", "DE", "business, over", "IT"},
		{api.Service, "", "", "", "FR", "", "DE"},
		{api.Service, "", "", "", "FR", "over", "DE"},
		{api.Service, "", "", "", "FR", "business", "FR"},
		{api.Service, "", "", "", "FR", "business, over", "FR"},
		{api.Service, "", "", "", "US", "", "US"},
		{api.Service, "", "", "", "US", "business", "US"},
		{api.Service, "", "", "", "DE", "", "DE"},
		{api.Service, "", "", "", "DE", "business, over", "DE"},
		{api.Electronic, "", "", "", "FR", "", "DE"},
		{api.Electronic, "", "", "", "FR", "over", "FR"},
		{api.Electronic, "", "", "", "FR", "business", "FR"},
		{api.Electronic, "", "", "", "FR", "business, over", "FR"},
		{api.Electronic, "", "", "", "US", "", "US"},
		{api.Electronic, "", "", "", "US", "over", "US"},
		{api.Electronic, "", "", "", "US", "business", "US"},
		{api.Electronic, "", "", "", "DE", "over", "DE"},
		{api.Electronic, "", "", "", "DE", "business", "DE"},
	})
}

// P17.2
func TestStateOfAPurchase(t *testing.T) {
	checkRows(t, false, []stateRow{
		{api.Goods, "US", "DE", "", "US", "", "DE"},
		{api.Goods, "US", "DE", "", "FR", "business", "DE"},
		{api.Goods, "US", "FR", "", "US", "", "FR"},
		{api.Goods, "US", "US", "", "US", "", "US"},
		{api.Goods, "US", "CH", "", "US", "", "CH"},
		{api.Goods, "FR", "DE", "", "FR", "", "FR"},
		{api.Goods, "FR", "DE", "", "FR", "over", "FR"},
		{api.Goods, "FR", "DE", "", "FR", "business", "DE"},
		{api.Goods, "FR", "DE", "", "US", "business, over", "DE"},
		{api.Goods, "FR", "IT", "", "FR", "business", "IT"},
		{api.Goods, "FR", "IT", "", "FR", "", "FR"},
		{api.Goods, "FR", "FR", "", "FR", "business", "FR"},
		{api.Goods, "FR", "US", "", "FR", "business", "US"}, // FR is another member state than US
		{api.Goods, "FR", "US", "", "FR", "", "FR"},
		{api.Goods, "DE", "FR", "", "DE", "business", "FR"},
		{api.Goods, "DE", "FR", "", "DE", "over", "DE"},
		{api.Goods, "DE", "DE", "", "DE", "business", "DE"},
		{api.Goods, "DE", "DE", "", "DE", "", "DE"},
		{api.SecondHand, "FR", "DE", "", "FR", "business", "FR"},
		{api.SecondHand, "FR", "DE", "", "FR", "", "FR"},
		{api.SecondHand, "US", "DE", "", "US", "business, over", "US"},
		{api.SecondHand, "DE", "DE", "", "DE", "", "DE"},
		{api.Service, "", "", "", "FR", "business", "DE"},
		{api.Service, "", "", "", "FR", "", "FR"},
		{api.Service, "", "", "", "FR", "over", "FR"},
		{api.Service, "", "", "", "US", "business", "DE"},
		{api.Service, "", "", "", "US", "", "US"},
		{api.Service, "", "", "", "DE", "", "DE"},
		{api.Service, "", "", "", "DE", "business", "DE"},
		{api.Electronic, "", "", "", "FR", "business, over", "DE"},
		{api.Electronic, "", "", "", "FR", "over", "FR"},
		{api.Electronic, "", "", "", "US", "business", "DE"},
		{api.Electronic, "", "", "", "US", "over", "US"},
		{api.Electronic, "", "", "", "DE", "over", "DE"},
	})
}

// P17.2
func TestExample(t *testing.T) {
	book := api.Line{Supply: api.Goods, Category: api.Reduced, From: "DE", To: "FR", Amount: 1000}
	private := api.Doc{Sale: true, Country: "FR"}
	c, e := place.Case("DE", private, book)
	check(t, e, api.OK)
	checkState(t, "DE", private, book, c, "DE", api.OK)
	c.Over = true
	checkState(t, "DE", private, book, c, "FR", api.OK)
}

// P17.2
func TestStateOfACaseThatSaysOtherwise(t *testing.T) {
	others := []api.Case{ // the line and its document are what they are, whatever zones and kinds a case names
		{},
		{Sale: true, Supply: api.Goods, To: api.ZoneUnion, Party: api.ZoneUnion},
		{Supply: api.Electronic, Exempt: true, From: api.ZoneThird, To: api.ZoneThird, Party: api.ZoneThird, Place: api.ZoneThird},
		{Sale: true, Supply: api.Property, Exempt: true, From: api.ZoneUnion, Place: api.ZoneUnion},
		{Supply: 99, From: -1, To: 3, Party: math.MaxInt, Place: math.MinInt},
	}
	eachRight("DE", []int{api.Standard, api.Exempt}, []string{"DE", "FR", "US"}, func(d api.Doc, l api.Line) {
		for _, c := range others {
			for _, c.Business = range either {
				for _, c.Over = range either {
					checkState(t, "DE", d, l, c, stateOf("DE", d, l, c.Business, c.Over), api.OK)
				}
			}
		}
	})
}

// P17.1, P17.2
func TestWhatElseADocumentAndALineSay(t *testing.T) {
	eachRight("DE", []int{api.Standard}, []string{"DE", "FR", "US"}, func(d api.Doc, l api.Line) {
		other, line := d, l
		other.ID, other.Credit, other.Refers, other.Day = strings.Repeat("x", 99), true, "", -5
		other.Number, other.Currency, other.Lines = "?", "eur", []api.Line{{Supply: 99}, l}
		line.Amount, line.Gross, line.Mixed = api.MaxWeight, true, !d.Sale
		checkCase(t, "DE", other, line, caseOf("DE", d, l), api.OK)
		checkState(t, "DE", other, line, with(true, true), stateOf("DE", d, l, true, true), api.OK)
		check(t, other.Lines[0], api.Line{Supply: 99}, "its lines")
	})
}

// wrongLines tells lines that may be of no document.
func wrongLines() []api.Line {
	goods := api.Line{Supply: api.Goods, Category: api.Standard, From: "DE", To: "FR", Amount: 5}
	local := api.Line{Supply: api.Event, Category: api.Standard, Place: "FR", Amount: 5}
	service := api.Line{Supply: api.Service, Category: api.Standard, Amount: 5}
	l := []api.Line{{}}
	add := func(line api.Line, change func(l *api.Line)) {
		change(&line)
		l = append(l, line)
	}
	for _, n := range noSupplies {
		add(goods, func(l *api.Line) { l.Supply = n })
		add(local, func(l *api.Line) { l.Supply = n })
		add(service, func(l *api.Line) { l.Supply = n })
	}
	for _, n := range []int{0, -1, 6, math.MaxInt, math.MinInt} {
		add(service, func(l *api.Line) { l.Category = n })
	}
	for _, n := range []int{-1, api.MaxWeight + 1, math.MaxInt, math.MinInt} {
		add(local, func(l *api.Line) { l.Amount = n })
		add(goods, func(l *api.Line) { l.Cost = n })
	}
	for _, c := range noCountries {
		add(goods, func(l *api.Line) { l.From = c })
		add(goods, func(l *api.Line) { l.To = c })
		add(goods, func(l *api.Line) { l.From, l.To = c, c })
		add(local, func(l *api.Line) { l.Place = c })
	}
	for _, c := range []string{"DE", "FR", "US", "x"} { // countries that lines of their supply have not
		add(goods, func(l *api.Line) { l.Place = c })
		add(local, func(l *api.Line) { l.From = c })
		add(local, func(l *api.Line) { l.To = c })
		add(service, func(l *api.Line) { l.From = c })
		add(service, func(l *api.Line) { l.To = c })
		add(service, func(l *api.Line) { l.Place = c })
	}
	add(goods, func(l *api.Line) { l.Cost = 1 })
	add(goods, func(l *api.Line) { l.Supply = api.SecondHand }) // not gross
	return l
}

// P17.1, P17.2
func TestErrorsInOrder(t *testing.T) {
	right := api.Line{Supply: api.Service, Category: api.Standard, Amount: 5}
	lines := append(wrongLines(), right)
	for _, l := range lines {
		for _, sale := range either {
			for _, home := range append(noCountries, thirds...) {
				checkWrong(t, home, api.Doc{Sale: sale, Country: "FR"}, l, api.ErrName)
				checkWrong(t, home, api.Doc{Sale: sale, Country: home}, l, api.ErrName)
			}
			for _, country := range noCountries {
				checkWrong(t, "DE", api.Doc{Sale: sale, Country: country}, l, api.ErrName)
			}
			for _, country := range []string{"DE", "FR", "US"} {
				if l != right {
					checkWrong(t, "DE", api.Doc{Sale: sale, Country: country}, l, api.ErrArg)
				}
			}
		}
	}
}

// P17.1, P17.2
func TestAMixedLine(t *testing.T) {
	for _, supply := range supplies {
		for _, l := range linesOf(supply, api.Standard, []string{"DE", "FR", "US"}) {
			l.Mixed = true
			checkWrong(t, "DE", api.Doc{Sale: true, Country: "FR"}, l, api.ErrArg)
			checkWrong(t, "DE", api.Doc{Sale: true, Country: "fr"}, l, api.ErrName)
			d := api.Doc{Country: "FR"}
			checkCase(t, "DE", d, l, caseOf("DE", d, l), api.OK)
			checkState(t, "DE", d, l, with(true, true), stateOf("DE", d, l, true, true), api.OK)
		}
	}
}

// P17.3
func TestStates(t *testing.T) {
	countries := []string{"DE", "FR", "EL", "US", "CH"}
	for _, home := range []string{"DE", "FR", "SK"} {
		eachRight(home, []int{api.Standard, api.Exempt}, countries, func(d api.Doc, l api.Line) {
			for _, business := range either {
				for _, over := range either {
					state, e := place.State(home, d, l, with(business, over))
					check(t, e, api.OK, home, d, l)
					named := []string{home, d.Country, l.From, l.To, l.Place}
					check(t, state != "" && slices.Contains(named, state), true, home, d, l, state)
				}
			}
		})
	}
}
