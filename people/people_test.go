package people_test

import (
	"math"
	"math/rand"
	"slices"
	"strings"
	"testing"

	"octroi/api"
	"octroi/people"
	"octroi/timeline"
)

type span = timeline.Span

// who is somebody: a country and a number.
type who struct{ country, number string }

var (
	members = strings.Fields("AT BE BG CY CZ DE DK EE EL ES FI FR HR HU IE IT LT LU LV MT NL PL PT RO SE SI SK")
	thirds  = []who{{"US", "77"}, {"US", "7"}, {"CH", "CHE123"}, {"GB", "123456789"}, {"GR", "123456789"}, {"UK", "A"}, {"XX", "0"}, {"ZZ", "12345678901234567890"}, {"AA", "ABCDEFGHIJKLMNOPQRST"}}

	noMembers = []string{"", "D", "DEU", "de", "De", "dE", "GR", "GB", "UK", "US", "CH", "XX", "ZZ", "  ", " D", "D ", "T B", "E B", "EB", "AT BE", "D\x00", "\xff\xff", "ÄT", "1T"}
	noSpans   = []span{over(-1, 0), over(0, -1), over(5, 4), over(0, api.MaxDay+1), over(api.MaxDay+1, api.MaxDay+1), over(math.MinInt, math.MaxInt), over(math.MaxInt, math.MinInt)}
	noDays    = []int{-1, math.MinInt, api.MaxDay + 1, math.MaxInt}

	// nobodies are no country, or no number that is right for it.
	nobodies = []who{
		{}, {"FR", ""}, {"", "12345678901"}, {"F", "R12345678901"}, {"FRA", "12345678901"}, {"fr", "12345678901"}, {"FR ", "12345678901"},
		{"FR", "1234567890"}, {"FR", "123456789012"}, {"FR", "FR12345678901"}, {"FR", "12 345678901"}, {"FR", "1234567890A"}, {"FR", "ab123456789"}, {"FR", "１２345678901"},
		{"DE", ""}, {"DE", "12345678"}, {"DE", "1234567890"}, {"DE", "12345678X"}, {"DE", " 123456789"},
		{"AT", "123456789"}, {"AT", "u12345678"}, {"BE", "2123456789"}, {"EL", "12345678"}, {"NL", "123456789012"}, {"IE", "1-23456A"}, {"RO", "1"}, {"RO", "12345678901"},
		{"US", ""}, {"US", "123456789012345678901"}, {"US", "7 7"}, {"US", "7-7"}, {"US", "a7"}, {"US", "+7"}, {"US", "Ä7"}, {"US", "7\x00"},
		{"us", "77"}, {"U", "S77"}, {"", "US77"}, {"U5", "77"}, {"U\xff", "77"},
	}
)

// right tells a number that is right for a member state.
func right(state string) string {
	switch state {
	case "AT":
		return "U12345678"
	case "BE":
		return "0123456789"
	case "CY":
		return "12345678Z"
	case "ES":
		return "X1234567A"
	case "FR":
		return "12345678901"
	case "HR", "IT", "LV":
		return "98765432109"
	case "IE":
		return "1+23456A"
	case "NL":
		return "123456789B01"
	case "PL", "SK":
		return "1234567890"
	case "RO":
		return "12"
	case "SE":
		return "123456789012"
	case "DK", "FI", "HU", "LU", "MT", "SI", "CZ":
		return "12345678"
	}
	return "123456789"
}

// bodies tells of each member state somebody.
func bodies() []who {
	var l []who
	for _, state := range members {
		l = append(l, who{state, right(state)})
	}
	return l
}

// part is a span, and of whom it was set: of nobody, if it is the choice's.
type part struct {
	w who
	s span
}

// model is people, word for word as the document says it: what was set, in whatever order.
type model struct {
	home  string
	parts []part
}

func (m *model) clone() *model { return &model{m.home, slices.Clone(m.parts)} }

func (m *model) set(w who, s span) api.Errno {
	if w != (who{}) && !isRight(w) {
		return api.ErrName
	}
	if s.From < 0 || s.Until > 2932896 || s.From > s.Until {
		return api.ErrRange
	}
	many := 0
	for _, p := range m.parts {
		if p.w != w {
			continue
		}
		if many++; p.s.From <= s.Until && s.From <= p.s.Until {
			return api.ErrClash
		}
	}
	if many == 256 {
		return api.ErrFull
	}
	m.parts = append(m.parts, part{w, s})
	return api.OK
}

func (m *model) holds(w who, day int) bool {
	return slices.ContainsFunc(m.parts, func(p part) bool { return p.w == w && p.s.From <= day && day <= p.s.Until })
}

func (m *model) business(w who, day int) bool {
	return isRight(w) && (w.country == m.home || !slices.Contains(members, w.country) || m.holds(w, day))
}

func (m *model) known() []string {
	var l []string
	for _, p := range m.parts {
		if name := p.w.country + p.w.number; name != "" && !slices.Contains(l, name) {
			l = append(l, name)
		}
	}
	slices.Sort(l)
	return l
}

// isRight tells whether somebody that the tests know of has a number that is right.
func isRight(w who) bool { return !slices.Contains(nobodies, w) }

// over tells a span.
func over(from, until int) span { return span{From: from, Until: until} }

func check[T comparable](t *testing.T, got, want T, what ...any) {
	t.Helper()
	if got != want {
		t.Fatalf("%v: %v, not %v", what, got, want)
	}
}

func checkKnown(t *testing.T, p *people.People, want []string, what ...any) {
	t.Helper()
	if got := p.Known(); !slices.Equal(got, want) {
		t.Fatalf("%v: known %v, not %v", what, got, want)
	}
}

// checkIs holds all that people tell of these, and of these days, to be the model's.
func checkIs(t *testing.T, p *people.People, m *model, l []who, days []int, what ...any) {
	t.Helper()
	check(t, p.Home(), m.home, what, "home")
	checkKnown(t, p, m.known(), what...)
	for _, day := range days {
		check(t, p.Opted(day), m.holds(who{}, day), what, "opted on day", day)
		for _, w := range l {
			check(t, p.Business(w.country, w.number, day), m.business(w, day), what, "business", w, "on day", day)
		}
	}
}

// made tells people of a home state.
func made(t *testing.T, home string) *people.People {
	t.Helper()
	p := people.New(home)
	if p == nil {
		t.Fatal("no people of", home)
	}
	return p
}

// put holds a status to be set.
func put(t *testing.T, p *people.People, w who, s span) {
	t.Helper()
	check(t, p.Status(w.country, w.number, s), api.OK, "status of", w, s)
}

// P15.1, P15.2, P15.3
func TestNew(t *testing.T) {
	days := append([]int{0, 1, 19782, api.MaxDay}, noDays...)
	for _, home := range members {
		checkIs(t, made(t, home), &model{home: home}, slices.Concat(bodies(), thirds, nobodies), days, "new of", home)
	}
	for _, home := range noMembers {
		if people.New(home) != nil {
			t.Errorf("people of %q", home)
		}
	}
}

// P15.2
func TestExample(t *testing.T) {
	p := made(t, "DE")
	check(t, p.Business("FR", "12345678901", 5), false, "FR ahead of its status")
	check(t, p.Business("US", "77", 5), true, "US")
	put(t, p, who{"FR", "12345678901"}, over(5, 5))
	check(t, p.Business("FR", "12345678901", 5), true, "FR behind its status")
}

// P15.1
func TestOpted(t *testing.T) {
	for _, begin := range []int{0, 1, 1000, api.MaxDay - 9} {
		for _, until := range []int{begin, begin + 1, begin + 9} {
			p := made(t, "DE")
			check(t, p.Opt(over(begin, until)), api.OK, begin, until)
			for day := begin - 3; day <= until+3; day++ {
				check(t, p.Opted(day), begin <= day && day <= until, "from", begin, "until", until, "on", day)
			}
			checkKnown(t, p, nil, "behind a choice")
		}
	}
	always := made(t, "FR")
	check(t, always.Opt(over(0, api.MaxDay)), api.OK, "always")
	for _, day := range []int{0, 1, 19782, api.MaxDay - 1, api.MaxDay} {
		check(t, always.Opted(day), true, "always, on", day)
	}
	for _, day := range noDays {
		check(t, always.Opted(day), false, "always, on", day)
	}
}

// P15.1
func TestOptErrorsInOrder(t *testing.T) {
	var none *people.People
	p := made(t, "DE")
	m := &model{"DE", nil}
	check(t, p.Opt(over(10, 20)), m.set(who{}, over(10, 20)), "10 to 20")
	for _, s := range append(noSpans, over(0, 5)) {
		check(t, none.Opt(s), api.ErrNil, "nil", s)
		check(t, new(people.People).Opt(s), api.ErrNil, "plain", s)
	}
	for _, s := range noSpans {
		check(t, p.Opt(s), api.ErrRange, s)
	}
	for _, s := range []span{over(10, 20), over(0, 10), over(20, 20), over(15, 16), over(0, api.MaxDay)} {
		check(t, p.Opt(s), api.ErrClash, s)
	}
	checkIs(t, p, m, bodies(), []int{0, 9, 10, 20, 21, api.MaxDay}, "behind all that was refused")
	check(t, p.Opt(over(0, 9)), api.OK, "0 to 9")
	check(t, p.Opt(over(21, 21)), api.OK, "21")
}

// P15.1, P15.2
func TestRoomOfEachLine(t *testing.T) {
	one, two := who{"FR", right("FR")}, who{"FR", "AB345678901"}
	p := made(t, "DE")
	set := func(w who, s span) api.Errno {
		if w == (who{}) {
			return p.Opt(s)
		}
		return p.Status(w.country, w.number, s)
	}
	for many, w := range []who{{}, one, two} { // each has room of its own
		for i := range api.MaxSpans {
			check(t, set(w, over(2*i, 2*i)), api.OK, w, "span", i)
		}
		check(t, set(w, over(1, 1)), api.ErrFull, w, "one more")
		check(t, set(w, over(0, 1)), api.ErrClash, w, "one that clashes")
		check(t, set(w, over(1, 0)), api.ErrRange, w, "none")
		check(t, len(p.Known()), many, "known")
	}
	for day := range 2 * api.MaxSpans {
		check(t, p.Opted(day), day%2 == 0, "opted on", day)
		check(t, p.Business(one.country, one.number, day), day%2 == 0, one, day)
		check(t, p.Business(two.country, two.number, day), day%2 == 0, two, day)
	}
	p = p.Clone()
	check(t, p.Opt(over(1, 1)), api.ErrFull, "one more on a clone")
	check(t, p.Status(one.country, one.number, over(1, 1)), api.ErrFull, "one more status on a clone")
}

// P15.2
func TestStatusErrorsInOrder(t *testing.T) {
	var none *people.People
	held := who{"FR", right("FR")}
	p, m := made(t, "DE"), &model{"DE", nil}
	put(t, p, held, over(10, 20))
	m.set(held, over(10, 20))
	refused := func(w who, s span, want api.Errno) {
		t.Helper()
		check(t, none.Status(w.country, w.number, s), api.ErrNil, "nil", w, s)
		check(t, new(people.People).Status(w.country, w.number, s), api.ErrNil, "plain", w, s)
		check(t, p.Status(w.country, w.number, s), want, w, s)
		checkKnown(t, p, m.known(), "behind", w, s)
	}
	for _, w := range nobodies {
		refused(w, over(0, 5), api.ErrName)
		refused(w, over(15, 15), api.ErrName)
		refused(w, over(5, 4), api.ErrName)
	}
	for _, w := range slices.Concat(bodies(), thirds) { // of one that is known, and of others
		for _, s := range noSpans {
			refused(w, s, api.ErrRange)
		}
	}
	for _, s := range []span{over(10, 20), over(0, 10), over(20, 20), over(15, 16), over(0, api.MaxDay)} {
		refused(held, s, api.ErrClash)
	}
	checkIs(t, p, m, slices.Concat(bodies(), thirds, nobodies), []int{0, 5, 9, 10, 20, 21}, "behind all that was refused")
}

// P15.2
func TestBusinessOfAnotherMemberState(t *testing.T) {
	for _, w := range bodies() {
		home := "DE"
		if w.country == home {
			home = "FR"
		}
		for _, s := range []span{over(0, 0), over(10, 20), over(0, api.MaxDay), over(api.MaxDay, api.MaxDay)} {
			p, m := made(t, home), &model{home, []part{{w, s}}}
			put(t, p, w, s)
			days := append([]int{s.From - 1, s.From, s.Until, s.Until + 1}, noDays...)
			checkIs(t, p, m, slices.Concat(bodies(), thirds, nobodies), days, home, w, s)
			for _, day := range noDays {
				check(t, p.Business(w.country, w.number, day), false, w, "on", day)
			}
		}
	}
}

// P15.2
func TestBusinessAtHomeAndInThirdCountries(t *testing.T) {
	for _, home := range []string{"DE", "EL", "NL"} {
		p := made(t, home)
		for _, w := range append(thirds, who{home, right(home)}) {
			holds := func(what string) {
				t.Helper()
				for _, day := range append([]int{0, 5, 6, api.MaxDay}, noDays...) {
					check(t, p.Business(w.country, w.number, day), true, what, w, day)
				}
			}
			holds("without a status")
			put(t, p, w, over(5, 5)) // says nothing of other days
			holds("with a status")
			check(t, p.Status(w.country, w.number, over(5, 5)), api.ErrClash, w)
		}
		check(t, len(p.Known()), len(thirds)+1, "known")
		for _, w := range nobodies {
			check(t, p.Business(w.country, w.number, 5), false, w)
		}
	}
}

// P15.2
func TestNumbersAreApart(t *testing.T) {
	same := []who{{"DK", "12345678"}, {"FI", "12345678"}, {"FI", "12345679"}, {"RO", "12345678"}, {"RO", "1234567"}, {"IE", "1+23456A"}, {"IE", "1*23456A"}, {"IE", "1923456A"}, {"IE", "1923456AA"}}
	days := []int{9, 10, 20, 21}
	p, m := made(t, "DE"), &model{home: "DE"}
	for _, w := range same {
		put(t, p, w, over(10, 20))
		m.set(w, over(10, 20))
		checkIs(t, p, m, same, days, "behind", w)
	}
	check(t, p.Opt(over(15, 15)), api.OK, "the choice")
	m.set(who{}, over(15, 15))
	checkIs(t, p, m, same, append(days, 14, 15, 16), "behind the choice")
}

// P15.3
func TestKnownAreSorted(t *testing.T) {
	c := rand.New(rand.NewSource(153))
	l := slices.Concat(bodies(), thirds, []who{{"IE", "1*23456A"}, {"IE", "1A23456A"}, {"IE", "1923456A"}, {"RO", "123"}, {"RO", "02"}, {"US", "A"}, {"US", "9"}, {"US", "77A"}})
	for range 20 {
		c.Shuffle(len(l), func(i, j int) { l[i], l[j] = l[j], l[i] })
		p := made(t, "DE")
		var want []string
		for i, w := range l {
			for j := range 1 + i%3 { // each once, whatever was set of it
				put(t, p, w, over(2*j, 2*j+1))
			}
			want = append(want, w.country+w.number)
			slices.Sort(want)
			checkKnown(t, p, want, "behind", w)
			checkKnown(t, p.Clone(), want, "clone behind", w)
		}
	}
}

// P15.3
func TestKnownAreTheCallersOwn(t *testing.T) {
	p := made(t, "DE")
	put(t, p, who{"FR", right("FR")}, over(0, 5))
	put(t, p, who{"IT", right("IT")}, over(0, 5))
	want := slices.Clone(p.Known())
	told := p.Known()
	told[0], told[1] = "XX", "YY"
	checkKnown(t, p, want)
	check(t, p.Business("FR", right("FR"), 5), true, "FR")
}

// P15.2, P15.3
func TestWhatIsRefusedIsNotKnown(t *testing.T) {
	p := made(t, "DE")
	for _, s := range noSpans {
		check(t, p.Status("FR", right("FR"), s), api.ErrRange, s)
	}
	check(t, p.Business("IT", right("IT"), 5), false, "IT")
	checkKnown(t, p, nil)
	checkKnown(t, p.Clone(), nil, "clone")
}

// P15.3
func TestClone(t *testing.T) {
	l, days := []who{{"FR", right("FR")}, {"IT", right("IT")}, {"US", "77"}, {"DE", right("DE")}}, []int{0, 5, 6, 9, 10, 15}
	set := func(p *people.People, m *model, w who, s span) {
		t.Helper()
		put(t, p, w, s)
		m.set(w, s)
	}
	opt := func(p *people.People, m *model, s span) {
		t.Helper()
		check(t, p.Opt(s), m.set(who{}, s), "opt", s)
	}
	p, m := made(t, "DE"), &model{home: "DE"}
	set(p, m, l[0], over(0, 5))
	opt(p, m, over(0, 5))
	other, otherModel := p.Clone(), m.clone()
	if other == p {
		t.Fatal("a clone is the people themselves")
	}
	checkIs(t, other, otherModel, l, days, "the clone, at first")
	set(other, otherModel, l[0], over(6, 9))
	set(other, otherModel, l[1], over(0, 9))
	opt(other, otherModel, over(6, 9))
	checkIs(t, p, m, l, days, "one whose clone was given")
	set(p, m, l[0], over(6, 10))
	set(p, m, l[2], over(0, 9))
	opt(p, m, over(10, 10))
	checkIs(t, p, m, l, days, "one that was given")
	checkIs(t, other, otherModel, l, days, "the clone")
}

// P15.1, P15.2, P15.3
func TestNoPeople(t *testing.T) {
	var none *people.People
	for what, p := range map[string]*people.People{"nil": none, "plain": {}, "new": new(people.People), "of no member": people.New("US")} {
		check(t, p.Home(), "", what)
		check(t, p.Opt(over(0, 5)), api.ErrNil, what)
		checkKnown(t, p, nil, what)
		if p.Clone() != nil {
			t.Error(what, "have a clone")
		}
		for _, w := range slices.Concat(bodies(), thirds, nobodies) {
			check(t, p.Status(w.country, w.number, over(0, 5)), api.ErrNil, what, w)
			for _, day := range append([]int{0, 5}, noDays...) {
				check(t, p.Business(w.country, w.number, day), false, what, w, day)
				check(t, p.Opted(day), false, what, day)
			}
		}
	}
}

// spanOf tells a span by chance; some of them are none.
func spanOf(c *rand.Rand) span {
	if c.Intn(20) == 0 {
		return noSpans[c.Intn(len(noSpans))]
	}
	from := c.Intn(30)
	return over(from, from+c.Intn(4))
}

// P15.1, P15.2, P15.3
func TestPeopleAreTheModels(t *testing.T) {
	c := rand.New(rand.NewSource(15))
	days := []int{-1, 0, 5, 10, 11, 12, 29, 32}
	l := append(bodies()[:10], thirds[:3]...)
	for range 10 {
		home := members[c.Intn(len(members))]
		groups, models := []*people.People{made(t, home)}, []*model{{home: home}}
		for step := range 80 {
			at := c.Intn(len(groups))
			if c.Intn(20) == 0 {
				groups, models = append(groups, groups[at].Clone()), append(models, models[at].clone())
			}
			w, s := l[c.Intn(len(l))], spanOf(c)
			switch c.Intn(8) {
			case 0, 1:
				check(t, groups[at].Opt(s), models[at].set(who{}, s), "step", step, "opt", s)
			case 2:
				w = nobodies[1+c.Intn(len(nobodies)-1)]
				fallthrough
			default:
				check(t, groups[at].Status(w.country, w.number, s), models[at].set(w, s), "step", step, w, s)
			}
			for j := range groups { // a step on one of them changes no other
				checkIs(t, groups[j], models[j], l, days, "group", j, "behind step", step, "on", at)
			}
		}
	}
}
