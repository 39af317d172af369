package rates_test

import (
	"math"
	"math/rand"
	"slices"
	"strconv"
	"strings"
	"testing"

	"octroi/api"
	"octroi/rates"
	"octroi/timeline"
)

type span = timeline.Span

var (
	members = strings.Fields("AT BE BG CY CZ DE DK EE EL ES FI FR HR HU IE IT LT LU LV MT NL PL PT RO SE SI SK")
	rated   = []int{api.Standard, api.Reduced, api.Low}
	unrated = []int{api.Nought, api.Exempt}

	noMembers    = []string{"", "D", "DEU", "de", "De", "dE", "GR", "GB", "UK", "US", "CH", "XX", "ZZ", "  ", " D", "D ", "T B", "E B", "EB", "AT BE", "D\x00", "\xff\xff", "ÄT", "1T"}
	noCategories = []int{0, -1, api.Exempt + 1, 7, math.MinInt, math.MaxInt, 1<<32 + 1, -1 << 32, 256 + 1}
	noRates      = []int{-1, math.MinInt, api.MaxBp + 1, math.MaxInt, 1 << 32, -1 << 32, 1<<16 + 1}
	noSpans      = []span{over(-1, 0), over(0, -1), over(5, 4), over(0, api.MaxDay+1), over(api.MaxDay+1, api.MaxDay+1), over(math.MinInt, math.MaxInt), over(math.MaxInt, math.MinInt)}
	noDays       = []int{-1, math.MinInt, api.MaxDay + 1, math.MaxInt}
)

// part is what was set.
type part struct {
	state    string
	category int
	s        span
	bp       int
}

// model is rates, word for word as the document says it: what was set, in whatever order.
type model struct{ parts []part }

func (m *model) clone() *model { return &model{slices.Clone(m.parts)} }

func (m *model) set(state string, category int, s span, bp int) api.Errno {
	switch {
	case !slices.Contains(members, state):
		return api.ErrName
	case !slices.Contains(rated, category) || bp < 0 || bp > 10000:
		return api.ErrArg
	case s.From < 0 || s.Until > 2932896 || s.From > s.Until:
		return api.ErrRange
	}
	many := 0
	for _, p := range m.parts {
		if p.state == state && p.category == category {
			many++
			if p.s.From <= s.Until && s.From <= p.s.Until {
				return api.ErrClash
			}
		}
	}
	if many == 256 {
		return api.ErrFull
	}
	m.parts = append(m.parts, part{state, category, s, bp})
	return api.OK
}

func (m *model) of(state string, category, day int) (int, api.Errno) {
	switch {
	case !slices.Contains(members, state):
		return 0, api.ErrName
	case category < 1 || category > 5:
		return 0, api.ErrArg
	case category > 3:
		return 0, api.OK
	}
	for _, p := range m.parts {
		if p.state == state && p.category == category && p.s.From <= day && day <= p.s.Until {
			return p.bp, api.OK
		}
	}
	return 0, api.ErrRate
}

func (m *model) states() []string {
	var l []string
	for _, state := range members { // they are sorted
		if slices.ContainsFunc(m.parts, func(p part) bool { return p.state == state }) {
			l = append(l, state)
		}
	}
	return l
}

// over tells a span.
func over(from, until int) span { return span{From: from, Until: until} }

func check[T comparable](t *testing.T, got, want T, what ...any) {
	t.Helper()
	if got != want {
		t.Fatalf("%v: %v, not %v", what, got, want)
	}
}

// checkOf holds just that rate, or that error, to be told.
func checkOf(t *testing.T, r *rates.Rates, state string, category, day, want int, wantE api.Errno, what ...any) {
	t.Helper()
	bp, e := r.Of(state, category, day)
	check(t, e, wantE, what, "error of", state, category, "on day", day)
	check(t, bp, want, what, "rate of", state, category, "on day", day)
}

// checkStates holds just these states to be told.
func checkStates(t *testing.T, r *rates.Rates, want []string, what ...any) {
	t.Helper()
	if got := r.States(); !slices.Equal(got, want) {
		t.Fatalf("%v: states %v, not %v", what, got, want)
	}
}

// checkIs holds all that rates tell of these days to be the model's.
func checkIs(t *testing.T, r *rates.Rates, m *model, days []int, what ...any) {
	t.Helper()
	check(t, r.Len(), len(m.parts), what, "len")
	checkStates(t, r, m.states(), what...)
	for _, state := range members {
		for category := range 7 {
			for _, day := range days {
				bp, e := m.of(state, category, day)
				checkOf(t, r, state, category, day, bp, e, what...)
			}
		}
	}
}

// put holds a rate to be set.
func put(t *testing.T, r *rates.Rates, state string, category int, s span, bp int) {
	t.Helper()
	check(t, r.Set(state, category, s, bp), api.OK, "set", state, category, s, bp)
}

// P14.1, P14.2, P14.3
func TestNew(t *testing.T) {
	r := rates.New()
	if r == nil {
		t.Fatal("no rates")
	}
	checkIs(t, r, &model{}, append([]int{0, 1, 19782, api.MaxDay}, noDays...), "new")
}

// P14.1, P14.2
func TestExample(t *testing.T) {
	r := rates.New()
	put(t, r, "DE", api.Standard, over(0, 100), 1900)
	checkOf(t, r, "DE", api.Standard, 0, 1900, api.OK)
	checkOf(t, r, "DE", api.Standard, 100, 1900, api.OK)
	checkOf(t, r, "DE", api.Standard, 101, 0, api.ErrRate)
	for _, day := range []int{0, 50, 100, 101, api.MaxDay} {
		checkOf(t, r, "DE", api.Nought, day, 0, api.OK)
	}
}

// P14.1, P14.2
func TestEachStateAndCategory(t *testing.T) {
	for _, state := range members {
		for _, category := range rated {
			for _, bp := range []int{0, 1, 700, 1900, api.MaxBp - 1, api.MaxBp} {
				r, m := rates.New(), &model{}
				put(t, r, state, category, over(10, 20), bp)
				m.set(state, category, over(10, 20), bp)
				checkIs(t, r, m, []int{9, 10, 15, 20, 21}, state, category, bp)
			}
		}
	}
}

// P14.1, P14.2
func TestBothEndsOfTime(t *testing.T) {
	r := rates.New()
	put(t, r, "FR", api.Low, over(0, 0), 210)
	put(t, r, "FR", api.Low, over(api.MaxDay, api.MaxDay), 550)
	put(t, r, "FR", api.Reduced, over(0, api.MaxDay), 1000)
	checkOf(t, r, "FR", api.Low, 0, 210, api.OK)
	checkOf(t, r, "FR", api.Low, 1, 0, api.ErrRate)
	checkOf(t, r, "FR", api.Low, api.MaxDay-1, 0, api.ErrRate)
	checkOf(t, r, "FR", api.Low, api.MaxDay, 550, api.OK)
	checkOf(t, r, "FR", api.Reduced, 0, 1000, api.OK)
	checkOf(t, r, "FR", api.Reduced, api.MaxDay, 1000, api.OK)
	for _, day := range noDays {
		checkOf(t, r, "FR", api.Low, day, 0, api.ErrRate)
		checkOf(t, r, "FR", api.Reduced, day, 0, api.ErrRate)
	}
}

// P14.1
func TestSetErrorsInOrder(t *testing.T) {
	var none *rates.Rates
	r := rates.New()
	put(t, r, "DE", api.Standard, over(10, 20), 1900)
	m := &model{[]part{{"DE", api.Standard, over(10, 20), 1900}}}
	refused := func(state string, category int, s span, bp int, want api.Errno) {
		t.Helper()
		check(t, none.Set(state, category, s, bp), api.ErrNil, "nil", state, category, s, bp)
		check(t, new(rates.Rates).Set(state, category, s, bp), api.ErrNil, "plain", state, category, s, bp)
		check(t, r.Set(state, category, s, bp), want, state, category, s, bp)
		check(t, r.Len(), 1, "len behind", state, category, s, bp)
	}
	for _, state := range noMembers {
		refused(state, api.Standard, over(30, 40), 1900, api.ErrName)
		refused(state, 0, over(-1, 0), -1, api.ErrName)
	}
	for _, state := range []string{"DE", "FR"} { // of one that has rates, and of one that has none
		for _, category := range append(noCategories, unrated...) {
			refused(state, category, over(30, 40), 1900, api.ErrArg)
			refused(state, category, over(-1, 0), 0, api.ErrArg)
		}
		for _, bp := range noRates {
			refused(state, api.Standard, over(30, 40), bp, api.ErrArg)
			refused(state, api.Standard, over(15, 15), bp, api.ErrArg)
			refused(state, api.Standard, over(-1, 0), bp, api.ErrArg)
		}
		for _, s := range noSpans {
			refused(state, api.Standard, s, 1900, api.ErrRange)
		}
	}
	for _, s := range []span{over(10, 20), over(0, 10), over(20, 20), over(15, 16), over(0, api.MaxDay)} {
		refused("DE", api.Standard, s, 1900, api.ErrClash)
		refused("DE", api.Standard, s, 700, api.ErrClash)
	}
	checkIs(t, r, m, []int{0, 9, 10, 15, 20, 21, 30, 40}, "behind all that was refused")
}

// P14.3
func TestWhatIsRefusedMakesNoState(t *testing.T) {
	r := rates.New()
	for _, s := range noSpans {
		check(t, r.Set("FR", api.Standard, s, 2000), api.ErrRange, "set", s)
	}
	check(t, r.Set("IT", api.Exempt, over(0, 9), 0), api.ErrArg, "exempt")
	checkOf(t, r, "ES", api.Standard, 5, 0, api.ErrRate)
	check(t, r.Len(), 0, "len")
	checkStates(t, r, nil)
	checkStates(t, r.Clone(), nil, "clone")
}

// P14.2
func TestOfErrorsInOrder(t *testing.T) {
	var none *rates.Rates
	r := rates.New()
	put(t, r, "DE", api.Standard, over(10, 20), 1900)
	days := append([]int{0, 15, api.MaxDay}, noDays...)
	for _, day := range days {
		for _, state := range append(noMembers, "DE", "FR") {
			for _, category := range append(noCategories, 1, 2, 3, 4, 5) {
				checkOf(t, none, state, category, day, 0, api.ErrNil, "nil")
				checkOf(t, new(rates.Rates), state, category, day, 0, api.ErrNil, "plain")
			}
		}
		for _, state := range noMembers {
			for _, category := range append(noCategories, 1, 2, 3, 4, 5) {
				checkOf(t, r, state, category, day, 0, api.ErrName)
			}
		}
		for _, state := range []string{"DE", "FR"} {
			for _, category := range noCategories {
				checkOf(t, r, state, category, day, 0, api.ErrArg)
			}
			for _, category := range unrated {
				checkOf(t, r, state, category, day, 0, api.OK)
			}
		}
		checkOf(t, r, "FR", api.Standard, day, 0, api.ErrRate)
		checkOf(t, r, "DE", api.Reduced, day, 0, api.ErrRate)
	}
	checkStates(t, r, []string{"DE"}, "behind all that was asked")
}

// P14.1, P14.3, P14.4
func TestRoomOfEachLine(t *testing.T) {
	r := rates.New()
	for i := range api.MaxSpans {
		put(t, r, "DE", api.Standard, over(2*i, 2*i), i)
	}
	check(t, r.Set("DE", api.Standard, over(1, 1), 5), api.ErrFull, "one more")
	check(t, r.Set("DE", api.Standard, over(0, 1), 5), api.ErrClash, "one that clashes")
	check(t, r.Set("DE", api.Standard, over(1, 0), 5), api.ErrRange, "none")
	check(t, r.Len(), api.MaxSpans, "len")
	for i := range api.MaxSpans {
		checkOf(t, r, "DE", api.Standard, 2*i, i, api.OK)
		checkOf(t, r, "DE", api.Standard, 2*i+1, 0, api.ErrRate)
	}
	put(t, r, "DE", api.Reduced, over(0, 1), 700)
	put(t, r, "FR", api.Standard, over(0, 1), 2000)
	check(t, r.Len(), api.MaxSpans+2, "len")
	check(t, r.Clone().Set("DE", api.Standard, over(1, 1), 5), api.ErrFull, "one more on a clone")
}

// P14.3
func TestStatesAreSorted(t *testing.T) {
	c := rand.New(rand.NewSource(143))
	l := slices.Clone(members)
	for range 20 {
		c.Shuffle(len(l), func(i, j int) { l[i], l[j] = l[j], l[i] })
		r := rates.New()
		for i, state := range l {
			for _, category := range rated[:1+i%3] { // each once, whatever was set of it
				put(t, r, state, category, over(0, 5), i)
				put(t, r, state, category, over(6, 9), i)
			}
			want := slices.Sorted(slices.Values(l[:i+1]))
			checkStates(t, r, want, "set", l[:i+1])
			checkStates(t, r.Clone(), want, "clone of", l[:i+1])
		}
	}
}

// P14.3
func TestStatesAreTheCallersOwn(t *testing.T) {
	r := rates.New()
	put(t, r, "DE", api.Standard, over(0, 5), 1900)
	put(t, r, "FR", api.Standard, over(0, 5), 2000)
	told := r.States()
	told[0], told[1] = "XX", "YY"
	checkStates(t, r, []string{"DE", "FR"})
	checkOf(t, r, "DE", api.Standard, 5, 1900, api.OK)
}

// P14.1, P14.2, P14.3
func TestNoRates(t *testing.T) {
	var none *rates.Rates
	for what, r := range map[string]*rates.Rates{"nil": none, "plain": {}, "new": new(rates.Rates)} {
		check(t, r.Set("DE", api.Standard, over(0, 9), 1900), api.ErrNil, what, "set")
		checkOf(t, r, "DE", api.Standard, 5, 0, api.ErrNil, what)
		checkOf(t, r, "DE", api.Nought, 5, 0, api.ErrNil, what)
		check(t, r.Len(), 0, what, "len")
		checkStates(t, r, nil, what)
		if r.Clone() != nil {
			t.Error(what, "has a clone")
		}
	}
}

// P14.4
func TestApart(t *testing.T) {
	days := []int{9, 10, 20, 21}
	r, m := rates.New(), &model{}
	for i, state := range members {
		for j, category := range rated { // on the same days
			bp := 10*i + j
			put(t, r, state, category, over(10, 20), bp)
			m.set(state, category, over(10, 20), bp)
			checkIs(t, r, m, days, "behind", state, category)
		}
	}
	check(t, r.Len(), len(members)*len(rated), "len")
}

// stateOf and the like tell what comes in by chance, most of it right.
func stateOf(c *rand.Rand) string {
	if c.Intn(20) == 0 {
		return noMembers[c.Intn(len(noMembers))]
	}
	return members[c.Intn(4)]
}

func categoryOf(c *rand.Rand) int {
	if c.Intn(20) == 0 {
		return noCategories[c.Intn(len(noCategories))]
	}
	return 1 + (c.Intn(10)*c.Intn(10))%5
}

func rateOf(c *rand.Rand) int {
	if c.Intn(20) == 0 {
		return noRates[c.Intn(len(noRates))]
	}
	return c.Intn(api.MaxBp + 1)
}

func spanOf(c *rand.Rand) span {
	if c.Intn(20) == 0 {
		return noSpans[c.Intn(len(noSpans))]
	}
	from := c.Intn(30)
	return over(from, from+c.Intn(4))
}

// P14.1, P14.2, P14.3, P14.4
func TestRatesAreTheModels(t *testing.T) {
	c := rand.New(rand.NewSource(14))
	days := []int{-1, 0, 5, 10, 11, 12, 29, 32}
	for range 8 {
		tables, models := []*rates.Rates{rates.New()}, []*model{{}}
		for step := range 60 {
			at := c.Intn(len(tables))
			if c.Intn(20) == 0 {
				tables, models = append(tables, tables[at].Clone()), append(models, models[at].clone())
			}
			state, category, s, bp := stateOf(c), categoryOf(c), spanOf(c), rateOf(c)
			check(t, tables[at].Set(state, category, s, bp), models[at].set(state, category, s, bp), "step", strconv.Itoa(step), state, category, s, bp)
			for j := range tables { // a step on one of them changes no other
				checkIs(t, tables[j], models[j], days, "table", j, "behind step", step, "on", at)
			}
		}
	}
}

// P14.3
func TestClone(t *testing.T) {
	r, m := rates.New(), &model{}
	days := []int{0, 5, 6, 9, 10, 15}
	set := func(r *rates.Rates, m *model, state string, category int, s span, bp int) {
		t.Helper()
		put(t, r, state, category, s, bp)
		m.set(state, category, s, bp)
	}
	set(r, m, "DE", api.Standard, over(0, 5), 1900)
	other, otherModel := r.Clone(), m.clone()
	if other == r {
		t.Fatal("a clone is the rates themselves")
	}
	set(other, otherModel, "DE", api.Standard, over(6, 9), 1600)
	set(other, otherModel, "FR", api.Low, over(0, 9), 210)
	checkIs(t, r, m, days, "one whose clone was given")
	set(r, m, "DE", api.Standard, over(6, 10), 1700)
	set(r, m, "AT", api.Reduced, over(0, 9), 1000)
	checkIs(t, r, m, days, "one that was given")
	checkIs(t, other, otherModel, days, "the clone")
}
