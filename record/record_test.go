package record_test

import (
	"bytes"
	"fmt"
	"math"
	"reflect"
	"slices"
	"strings"
	"testing"

	"octroi/api"
	"octroi/record"
)

var (
	days   = []int{0, 1, 19782, api.MaxDay}
	noDays = []int{-1, api.MaxDay + 1, math.MaxInt, math.MinInt}

	memberStates = strings.Fields("AT BE BG CY CZ DE DK EE EL ES FI FR HR HU IE IT LT LU LV MT NL PL PT RO SE SI SK")
	noMembers    = []string{"", "US", "GB", "GR", "de", "D", "DEU", "D1", "DE ", "AT BE", "\xff\xff"}
	noCountries  = []string{"", "D", "de", "De", "DEU", "D1", "D ", " D", "11", "Ä", "\x00\x00"}
	noCurrencies = []string{"", "E", "EU", "EURO", "eur", "EUr", "EU1", "E R", "EU ", "ÄE", "€", "\xff\xff\xff", "\x00\x00\x00"}
)

func check[T comparable](t *testing.T, got, want T, what ...any) {
	t.Helper()
	if got != want {
		t.Fatalf("%s: %v, not %v", short(what), got, want)
	}
}

// short tells anything as Go would have it, or how it begins: a program may be long.
func short(x any) string {
	s := fmt.Sprintf("%#v", x)
	return s[:min(len(s), 1000)]
}

// goods tells a line that may be.
func goods() api.Line {
	return api.Line{Supply: api.Goods, Category: api.Standard, From: "DE", To: "FR", Amount: 1000}
}

// sale tells a document that may be.
func sale() api.Doc {
	return api.Doc{ID: "a", Sale: true, Day: 19782, Country: "FR", Number: "XX123456789", Currency: "EUR", Lines: []api.Line{goods()}}
}

func quarter(year, index int) api.Period {
	return api.Period{Kind: api.Quarter, Year: year, Index: index}
}

func month(year, index int) api.Period { return api.Period{Kind: api.Month, Year: year, Index: index} }

func year(n int) api.Period { return api.Period{Kind: api.Year, Year: n, Index: 1} }

// commands tells one of each kind, that may be, none of whose named fields is zero.
func commands() []api.Command {
	return []api.Command{
		{Kind: api.CmdSetup, Country: "DE", Index: api.Month, Day: 18993},
		{Kind: api.CmdRate, Country: "DE", Category: api.Reduced, Day: 18993, Until: 19782, Bp: 1900},
		{Kind: api.CmdOpt, Day: 18993, Until: 19782},
		{Kind: api.CmdStatus, Country: "FR", Text: "XX123456789", Day: 18993, Until: 19782},
		{Kind: api.CmdFx, Text: "USD", Period: quarter(2024, 2), Num: 300, Den: 7},
		{Kind: api.CmdProgram, Text: "box 1 = sum(base)"},
		{Kind: api.CmdShare, Period: year(2024), Num: 50},
		{Kind: api.CmdDoc, Doc: sale()},
		{Kind: api.CmdClose, Period: month(2024, 12)},
		{Kind: api.CmdFile, Period: quarter(2024, 4)},
		{Kind: api.CmdYear, Period: year(2024)},
	}
}

// named tells which fields a kind names.
var named = map[int]string{
	api.CmdSetup:   "Kind Country Index Day",
	api.CmdRate:    "Kind Country Category Day Until Bp",
	api.CmdOpt:     "Kind Day Until",
	api.CmdStatus:  "Kind Country Text Day Until",
	api.CmdFx:      "Kind Text Period Num Den",
	api.CmdProgram: "Kind Text",
	api.CmdShare:   "Kind Period Num",
	api.CmdDoc:     "Kind Doc",
	api.CmdClose:   "Kind Period",
	api.CmdFile:    "Kind Period",
	api.CmdYear:    "Kind Period",
}

// of tells the command of a kind, changed.
func of(kind int, change func(c *api.Command)) api.Command {
	c := commands()[kind-1]
	change(&c)
	return c
}

// checkMay holds a command to be one that may be, with bytes that are its own.
func checkMay(t *testing.T, c api.Command, what ...any) {
	t.Helper()
	check(t, record.Good(c), true, what, c)
	b, e := record.Encode(c)
	if want := model(c); e != api.OK || !bytes.Equal(b, want) {
		t.Fatalf("%s: %s and %d, not %s", short(what), short(b), int(e), short(want))
	}
	told, e := record.Decode(b)
	if e != api.OK || !reflect.DeepEqual(plain(told), plain(c)) {
		t.Fatalf("%s: %s and %d, not %s", short(what), short(told), int(e), short(c))
	}
	check(t, record.Same(told, c), true, what, c)
}

// plain tells a command whose empty list is nil.
func plain(c api.Command) api.Command {
	if len(c.Doc.Lines) == 0 {
		c.Doc.Lines = nil
	}
	return c
}

// checkMayNot holds a command to be one that may not be.
func checkMayNot(t *testing.T, c api.Command, what ...any) {
	t.Helper()
	check(t, record.Good(c), false, what, c)
	if b, e := record.Encode(c); e != api.ErrArg || len(b) != 0 {
		t.Fatalf("%s: %s and %d", short(what), short(b), int(e))
	}
}

// checkNone holds bytes to be no command's.
func checkNone(t *testing.T, b []byte, what ...any) {
	t.Helper()
	if c, e := record.Decode(b); e != api.ErrForm || !reflect.DeepEqual(c, api.Command{}) {
		t.Fatalf("%s: %s and %d", short(what), short(c), int(e))
	}
}

// checkEither holds a command to be one that may be, or one that may not be, whose bytes are none then.
func checkEither(t *testing.T, c api.Command, may bool, what ...any) {
	t.Helper()
	if may {
		checkMay(t, c, what)
		return
	}
	checkMayNot(t, c, what)
	checkNone(t, model(c), what)
}

// P8.1
func TestEachKindMayBe(t *testing.T) {
	for i, c := range commands() {
		check(t, c.Kind, i+1)
		checkMay(t, c)
	}
}

// P8.1
func TestNoKind(t *testing.T) {
	for _, kind := range []int{0, 12, 13, -1, -8, 256, math.MaxInt, math.MinInt} {
		checkMayNot(t, api.Command{Kind: kind}, kind)
		for _, c := range commands() {
			c.Kind = kind
			checkMayNot(t, c, kind)
		}
	}
	checkMayNot(t, api.Command{})
}

// P8.1
func TestAnotherKind(t *testing.T) {
	alike := [][2]int{{api.CmdClose, api.CmdFile}, {api.CmdFile, api.CmdClose}, {api.CmdYear, api.CmdShare}} // a share may be 0
	for _, c := range commands() {
		for kind := range 20 {
			other := c
			other.Kind = kind
			check(t, record.Good(other), kind == c.Kind || slices.Contains(alike, [2]int{c.Kind, kind}), kind, c)
		}
	}
}

// nonzero changes a field so that it is not zero.
func nonzero(field reflect.Value, way int) {
	switch x := field.Addr().Interface().(type) {
	case *int:
		*x = []int{1, -1, 2, 5}[way]
	case *string:
		*x = []string{"DE", "USD", "\x00", "123456789"}[way]
	case *api.Period:
		*x = []api.Period{month(2024, 1), year(2024), {Kind: api.Month}, {Index: 1}}[way]
	case *api.Doc:
		*x = []api.Doc{sale(), {ID: "a"}, {Lines: []api.Line{{}}}, {Day: 1}}[way]
	}
}

// P8.1
func TestFieldsThatAreNotNamed(t *testing.T) {
	fields := reflect.TypeFor[api.Command]()
	for _, c := range commands() {
		names := strings.Fields(named[c.Kind])
		for i := range fields.NumField() {
			if slices.Contains(names, fields.Field(i).Name) {
				continue
			}
			for way := range 4 {
				other := c
				nonzero(reflect.ValueOf(&other).Elem().Field(i), way)
				checkMayNot(t, other, fields.Field(i).Name)
			}
		}
		if c.Kind != api.CmdDoc {
			c.Doc.Lines = []api.Line{}
			checkMay(t, c, "a list without an element")
		}
	}
}

// P8.1
func TestSetup(t *testing.T) {
	for _, state := range memberStates {
		checkMay(t, of(api.CmdSetup, func(c *api.Command) { c.Country = state }))
	}
	for _, state := range noMembers {
		checkEither(t, of(api.CmdSetup, func(c *api.Command) { c.Country = state }), false)
	}
	for _, index := range []int{0, 1, 2, 3, 4, -1, 255, math.MaxInt} {
		checkEither(t, of(api.CmdSetup, func(c *api.Command) { c.Index = index }), index == 1 || index == 2)
	}
	for _, day := range days {
		checkMay(t, of(api.CmdSetup, func(c *api.Command) { c.Day = day }))
	}
	for _, day := range noDays {
		checkMayNot(t, of(api.CmdSetup, func(c *api.Command) { c.Day = day }))
	}
}

// P8.1
func TestRate(t *testing.T) {
	for _, state := range memberStates {
		checkMay(t, of(api.CmdRate, func(c *api.Command) { c.Country = state }))
	}
	for _, state := range noMembers {
		checkEither(t, of(api.CmdRate, func(c *api.Command) { c.Country = state }), false)
	}
	for category := -3; category < 9; category++ {
		checkEither(t, of(api.CmdRate, func(c *api.Command) { c.Category = category }), category >= 1 && category <= 3)
	}
	for _, bp := range []int{0, 1, 1900, api.MaxBp, api.MaxBp + 1, -1, math.MaxInt, -math.MaxInt} {
		checkEither(t, of(api.CmdRate, func(c *api.Command) { c.Bp = bp }), bp >= 0 && bp <= api.MaxBp)
	}
}

// P8.1
func TestStretch(t *testing.T) {
	for _, kind := range []int{api.CmdRate, api.CmdOpt, api.CmdStatus} {
		for _, day := range append(days, noDays...) {
			for _, until := range append(days, noDays...) {
				c := of(kind, func(c *api.Command) { c.Day, c.Until = day, until })
				if slices.Contains(days, day) && slices.Contains(days, until) && day <= until {
					checkMay(t, c)
				} else {
					checkMayNot(t, c)
				}
			}
		}
		checkEither(t, of(kind, func(c *api.Command) { c.Day, c.Until = 5, 4 }), false)
		checkEither(t, of(kind, func(c *api.Command) { c.Day, c.Until = 5, 5 }), true)
	}
}

// P8.1
func TestStatus(t *testing.T) {
	for _, x := range []struct {
		country, text string
		may           bool
	}{
		{"DE", "123456789", true}, {"DE", "12345678", false}, {"DE", "", false}, {"FR", "123456789", false},
		{"IE", "1+23456A", true}, {"US", "1+23456A", false}, {"US", "1", true}, {"US", strings.Repeat("Z", 20), true},
		{"US", strings.Repeat("Z", 21), false}, {"US", "", false}, {"us", "1", false}, {"", "1", false}, {"", "", false}, {"USA", "1", false},
	} {
		checkEither(t, of(api.CmdStatus, func(c *api.Command) { c.Country, c.Text = x.country, x.text }), x.may)
	}
}

// P8.1
func TestFx(t *testing.T) {
	for _, text := range []string{"EUR", "AAA", "ZZZ", "DEM"} {
		checkMay(t, of(api.CmdFx, func(c *api.Command) { c.Text = text }))
	}
	for _, text := range noCurrencies {
		checkEither(t, of(api.CmdFx, func(c *api.Command) { c.Text = text }), false)
	}
	for _, n := range []int{1, 2, 1 << 32, api.MaxWeight, 0, -1, api.MaxWeight + 1, math.MaxInt, -math.MaxInt} {
		may := n >= 1 && n <= api.MaxWeight
		checkEither(t, of(api.CmdFx, func(c *api.Command) { c.Num = n }), may)
		checkEither(t, of(api.CmdFx, func(c *api.Command) { c.Den = n }), may)
		checkEither(t, of(api.CmdFx, func(c *api.Command) { c.Num, c.Den = n, n }), may)
	}
}

// P8.1
func TestProgram(t *testing.T) {
	for _, text := range []string{"", "x", "\x00\xff", strings.Repeat("x", 255), strings.Repeat("x", api.MaxProgram-1), strings.Repeat("\xff", api.MaxProgram)} {
		checkMay(t, of(api.CmdProgram, func(c *api.Command) { c.Text = text }), len(text))
	}
	for _, many := range []int{api.MaxProgram + 1, 2 * api.MaxProgram} {
		checkEither(t, of(api.CmdProgram, func(c *api.Command) { c.Text = strings.Repeat("x", many) }), false)
	}
}

// P8.1
func TestShare(t *testing.T) {
	for _, n := range []int{0, 1, 50, 99, 100, 101, -1, 255, math.MaxInt, -math.MaxInt} {
		checkEither(t, of(api.CmdShare, func(c *api.Command) { c.Num = n }), n >= 0 && n <= 100)
	}
}

// most tells the greatest index of a kind of periods; 0, if it is none.
func most(kind int) int { return map[int]int{api.Month: 12, api.Quarter: 4, api.Year: 1}[kind] }

// P8.1
func TestPeriods(t *testing.T) {
	kinds := map[int][]int{
		api.CmdFx: {api.Quarter}, api.CmdShare: {api.Year}, api.CmdYear: {api.Year},
		api.CmdClose: {api.Month, api.Quarter}, api.CmdFile: {api.Month, api.Quarter},
	}
	for command, may := range kinds {
		for _, kind := range []int{0, 1, 2, 3, 4, -1, math.MaxInt, math.MinInt} {
			for _, y := range []int{1969, api.MinYear, 2024, api.MaxYear, 10000, 0, -2024, math.MaxInt, math.MinInt} {
				for _, i := range []int{0, 1, 2, 4, 5, 12, 13, -1, math.MaxInt, math.MinInt} {
					c := of(command, func(c *api.Command) { c.Period = api.Period{Kind: kind, Year: y, Index: i} })
					if slices.Contains(may, kind) && y >= api.MinYear && y <= api.MaxYear && i >= 1 && i <= most(kind) {
						checkMay(t, c)
					} else {
						checkMayNot(t, c)
					}
				}
			}
		}
	}
}

// withDoc tells the command of a document that may be, changed.
func withDoc(change func(d *api.Doc)) api.Command {
	d := sale()
	change(&d)
	return api.Command{Kind: api.CmdDoc, Doc: d}
}

// checkDoc holds a document, changed, to be one that may be, or may not be.
func checkDoc(t *testing.T, may bool, change func(d *api.Doc)) {
	t.Helper()
	c := withDoc(change)
	check(t, record.GoodDoc(c.Doc), may, c.Doc)
	checkEither(t, c, may)
}

// P8.1
func TestDocNames(t *testing.T) {
	for _, many := range []int{0, 1, 2, api.MaxName - 1, api.MaxName, api.MaxName + 1, 300} {
		name := strings.Repeat("\xfe", many)
		checkDoc(t, many >= 1 && many <= api.MaxName, func(d *api.Doc) { d.ID = name })
		checkDoc(t, many >= 1 && many <= api.MaxName, func(d *api.Doc) { d.Credit, d.Refers = true, name })
		checkDoc(t, many == 0, func(d *api.Doc) { d.Credit, d.Refers = false, name })
	}
	checkDoc(t, true, func(d *api.Doc) { d.Credit, d.Refers = true, d.ID })
}

// P8.1
func TestDocParties(t *testing.T) {
	for _, day := range days {
		checkDoc(t, true, func(d *api.Doc) { d.Day = day })
	}
	for _, day := range []int{-1, api.MaxDay + 1, math.MaxInt, -math.MaxInt} {
		checkDoc(t, false, func(d *api.Doc) { d.Day = day })
	}
	check(t, record.GoodDoc(withDoc(func(d *api.Doc) { d.Day = math.MinInt }).Doc), false)
	for _, country := range noCountries {
		checkDoc(t, false, func(d *api.Doc) { d.Country, d.Number = country, "" })
		checkDoc(t, false, func(d *api.Doc) { d.Country = country })
	}
	for _, x := range []struct {
		country, number string
		may             bool
	}{
		{"US", "", true}, {"DE", "", true}, {"ZZ", "", true}, {"US", "1", true}, {"DE", "123456789", true},
		{"DE", "1", false}, {"FR", "123456789", false}, {"US", "a", false}, {"US", " ", false}, {"US", strings.Repeat("1", 21), false},
	} {
		checkDoc(t, x.may, func(d *api.Doc) { d.Country, d.Number = x.country, x.number })
	}
	checkDoc(t, true, func(d *api.Doc) { d.Currency = "" })
	checkDoc(t, true, func(d *api.Doc) { d.Currency = "ZZZ" })
	for _, text := range noCurrencies[1:] {
		checkDoc(t, false, func(d *api.Doc) { d.Currency = text })
	}
}

// P8.1
func TestDocLines(t *testing.T) {
	for _, many := range []int{0, 1, 2, api.MaxLines - 1, api.MaxLines, api.MaxLines + 1, 256, 1000} {
		checkDoc(t, many >= 1 && many <= api.MaxLines, func(d *api.Doc) { d.Lines = slices.Repeat([]api.Line{goods()}, many) })
	}
	checkDoc(t, false, func(d *api.Doc) { d.Lines = nil })
	for _, many := range []int{1, 3, api.MaxLines} {
		for i := range many {
			checkDoc(t, false, func(d *api.Doc) {
				d.Lines = slices.Repeat([]api.Line{goods()}, many)
				d.Lines[i].Amount = -1
			})
		}
	}
	checkDoc(t, false, func(d *api.Doc) { d.Lines[0].Mixed = true })
	checkDoc(t, true, func(d *api.Doc) { d.Lines[0].Mixed, d.Sale = true, false })
	check(t, record.GoodDoc(api.Doc{}), false, "an empty document")
	checkMayNot(t, api.Command{Kind: api.CmdDoc})
}

// checkLine holds a line to be one that may be, or may not be, of a sale and of a purchase.
func checkLine(t *testing.T, l api.Line, sale, purchase bool) {
	t.Helper()
	check(t, record.GoodLine(l, true), sale, l, "a sale's")
	check(t, record.GoodLine(l, false), purchase, l, "a purchase's")
	checkDoc(t, sale, func(d *api.Doc) { d.Lines[0] = l })
	checkDoc(t, purchase, func(d *api.Doc) { d.Sale, d.Lines[0] = false, l })
}

// placed tells a line of a supply with the countries that it needs; of none, a service's.
func placed(supply int) api.Line {
	l := api.Line{Supply: supply, Category: api.Standard, Amount: 5}
	switch supply {
	case api.Goods, api.SecondHand:
		l.From, l.To, l.Gross = "DE", "US", true
	case api.Property, api.Event, api.Transport:
		l.Place = "FR"
	}
	return l
}

// P8.1
func TestLineKinds(t *testing.T) {
	for supply := -2; supply < 12; supply++ {
		may := supply >= 1 && supply <= 7
		checkLine(t, placed(supply), may, may)
		for category := -2; category < 9; category++ {
			l := placed(supply)
			l.Category = category
			both := may && category >= 1 && category <= 5
			checkLine(t, l, both, both)
		}
	}
	for _, n := range []int{math.MaxInt, math.MinInt, 256 + 1} {
		l := goods()
		l.Supply = n
		check(t, record.GoodLine(l, false), false, l)
		l = goods()
		l.Category = n
		check(t, record.GoodLine(l, false), false, l)
	}
	check(t, record.GoodLine(api.Line{}, true), false, "an empty line")
	check(t, record.GoodLine(api.Line{}, false), false, "an empty line")
}

// P8.1
func TestLineCountries(t *testing.T) {
	texts := append([]string{"DE", "ZZ", "US"}, noCountries...)
	is := func(c string) bool { return slices.Contains(texts[:3], c) }
	for supply := 1; supply <= 7; supply++ {
		for _, from := range texts {
			for _, to := range texts {
				for _, place := range texts {
					l := placed(supply)
					l.From, l.To, l.Place = from, to, place
					var may bool
					switch supply {
					case api.Goods, api.SecondHand:
						may = is(from) && is(to) && place == ""
					case api.Property, api.Event, api.Transport:
						may = from == "" && to == "" && is(place)
					default:
						may = from+to+place == ""
					}
					check(t, record.GoodLine(l, true), may, l)
					check(t, record.GoodLine(l, false), may, l)
				}
			}
		}
	}
}

// P8.1
func TestLineAmounts(t *testing.T) {
	for supply := 1; supply <= 7; supply++ {
		for _, n := range []int{0, 1, 1 << 32, api.MaxWeight, api.MaxWeight + 1, -1, math.MaxInt, -math.MaxInt} {
			l := placed(supply)
			l.Amount = n
			may := n >= 0 && n <= api.MaxWeight
			checkLine(t, l, may, may)
			l = placed(supply)
			l.Cost = n
			may = n == 0 || may && supply == api.SecondHand
			checkLine(t, l, may, may)
		}
		l := placed(supply)
		l.Amount = math.MinInt
		check(t, record.GoodLine(l, true), false, l)
		l = placed(supply)
		l.Cost = math.MinInt
		check(t, record.GoodLine(l, true), false, l)
		for _, gross := range []bool{true, false} {
			for _, mixed := range []bool{true, false} {
				l := placed(supply)
				l.Gross, l.Mixed = gross, mixed
				may := gross || supply != api.SecondHand
				checkLine(t, l, may && !mixed, may)
			}
		}
	}
}
