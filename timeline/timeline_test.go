package timeline_test

import (
	"iter"
	"math"
	"math/rand"
	"slices"
	"strconv"
	"testing"

	"octroi/api"
	"octroi/timeline"
)

type span = timeline.Span

// window is how many days are gone over one by one, from a beginning on.
const window = 40

// begins are the first days of windows: at both ends of all days, and between.
var begins = []int{0, 1, 19782, 1 << 20, api.MaxDay - window, api.MaxDay - window + 1}

// wrongSpans are none: a day too early or too late, an end ahead of the beginning, or both.
var wrongSpans = []span{
	{-1, 0}, {-1, -1}, {-1, api.MaxDay}, {-7, -3}, {0, -1}, {1, 0}, {30, 20},
	{0, api.MaxDay + 1}, {api.MaxDay, api.MaxDay + 1}, {api.MaxDay + 1, api.MaxDay + 1}, {api.MaxDay + 1, api.MaxDay},
	{api.MaxDay, 0}, {api.MaxDay, api.MaxDay - 1}, {-1, api.MaxDay + 1},
	{math.MinInt, math.MaxInt}, {math.MaxInt, math.MinInt}, {math.MinInt, math.MinInt}, {math.MaxInt, math.MaxInt},
	{0, math.MaxInt}, {math.MinInt, 0}, {0, math.MinInt}, {math.MaxInt, 0},
	{1 << 32, 1<<32 + 1}, {-1 << 32, 5}, {0, 1 << 32}, {0, -1 << 32},
}

// noDays are numbers that no day has.
var noDays = []int{-1, -2, math.MinInt, api.MaxDay + 1, api.MaxDay + 2, math.MaxInt, 1 << 32, -1 << 32}

// part is what was set.
type part struct {
	s span
	x string
}

// model is a line, word for word as the document says it: what was set, in whatever order.
type model struct {
	most  int
	parts []part
}

func isSpan(s span) bool { return s.From >= 0 && s.Until <= api.MaxDay && s.From <= s.Until }

func isIn(day int, s span) bool { return isSpan(s) && s.From <= day && day <= s.Until }

func (m *model) set(s span, x string) api.Errno {
	if !isSpan(s) {
		return api.ErrRange
	}
	for day := s.From; day <= s.Until; day++ {
		if _, ok := m.at(day); ok {
			return api.ErrClash
		}
	}
	if len(m.parts) == m.most {
		return api.ErrFull
	}
	m.parts = append(m.parts, part{s, x})
	return api.OK
}

func (m *model) at(day int) (string, bool) {
	for _, p := range m.parts {
		if isIn(day, p.s) {
			return p.x, true
		}
	}
	return "", false
}

func (m *model) gap(s span) int {
	many := 0
	if !isSpan(s) {
		return 0
	}
	for day := s.From; day <= s.Until; day++ {
		if _, ok := m.at(day); !ok {
			many++
		}
	}
	return many
}

func (m *model) clone() *model { return &model{m.most, slices.Clone(m.parts)} }

// sorted tells what was set, from the first day on.
func (m *model) sorted() []part {
	l := slices.Clone(m.parts)
	slices.SortFunc(l, func(a, b part) int { return a.s.From - b.s.From })
	return l
}

func check[T comparable](t *testing.T, got, want T, what ...any) {
	t.Helper()
	if got != want {
		t.Fatalf("%v: %v, not %v", what, got, want)
	}
}

// line tells a line that must be one.
func line(t *testing.T, most int) *timeline.Line[string] {
	t.Helper()
	l := timeline.New[string](most)
	if l == nil {
		t.Fatal("no line with room for", most)
	}
	return l
}

// put holds these spans to be set.
func put(t *testing.T, l *timeline.Line[string], spans ...span) {
	t.Helper()
	for _, s := range spans {
		check(t, l.Set(s, name(s)), api.OK, "set", s)
	}
}

// name tells a text for a span.
func name(s span) string { return strconv.Itoa(s.From) + " to " + strconv.Itoa(s.Until) }

// partsOf tells all that a line's spans tell.
func partsOf(all iter.Seq2[span, string]) []part {
	var l []part
	for s, x := range all {
		l = append(l, part{s, x})
	}
	return l
}

// checkParts holds a line to have just these.
func checkParts(t *testing.T, l *timeline.Line[string], want []part, what ...any) {
	t.Helper()
	check(t, l.Len(), len(want), what, "len")
	if got := partsOf(l.All()); !slices.Equal(got, want) {
		t.Fatalf("%v: %v, not %v", what, got, want)
	}
}

// checkAt holds just that to hold on a day.
func checkAt(t *testing.T, l *timeline.Line[string], day int, want string, wantOK bool, what ...any) {
	t.Helper()
	x, ok := l.At(day)
	check(t, x, want, what, "on day", day)
	check(t, ok, wantOK, what, "on day", day)
}

// checkIs holds all that a line tells of a window to be the model's.
func checkIs(t *testing.T, l *timeline.Line[string], m *model, begin int, what ...any) {
	t.Helper()
	checkParts(t, l, m.sorted(), what...)
	for day := begin - 2; day <= begin+window+2; day++ {
		x, ok := m.at(day)
		checkAt(t, l, day, x, ok, what...)
		s := span{begin, day}
		check(t, l.Gap(s), m.gap(s), what, "gap of", s)
	}
}

// P13.1
func TestNew(t *testing.T) {
	for _, most := range []int{1, 2, 3, 100, api.MaxSpans - 1, api.MaxSpans} {
		l, m := line(t, most), &model{most: most}
		checkIs(t, l, m, 0, "new of", most)
		for i := range most {
			s := span{3 * i, 3*i + 1}
			check(t, l.Set(s, "x"), api.OK, "span", i, "of", most)
			check(t, m.set(s, "x"), api.OK, "the model's span", i, "of", most)
		}
		check(t, l.Set(span{api.MaxDay, api.MaxDay}, "y"), api.ErrFull, "one more than", most)
		checkIs(t, l, m, 0, "full of", most)
		checkAt(t, l, api.MaxDay, "", false, "full of", most)
	}
	for _, most := range []int{0, -1, math.MinInt, api.MaxSpans + 1, 1 << 32, 1<<32 + 1, -1 << 32, math.MaxInt} {
		if timeline.New[string](most) != nil {
			t.Error("a line with room for", most)
		}
	}
}

// P13.1, P13.2
func TestExample(t *testing.T) {
	l := timeline.New[int](2)
	check(t, l.Set(span{10, 20}, 5), api.OK, "5 from 10 to 20")
	check(t, l.Set(span{20, 30}, 6), api.ErrClash, "6 from 20 to 30")
	check(t, l.Gap(span{0, 29}), 19, "gap of 0 to 29")
	x, ok := l.At(20)
	check(t, x, 5, "on day 20")
	check(t, ok, true, "on day 20")
}

// P13.1
func TestFirstAndLastDayAreIn(t *testing.T) {
	for _, begin := range begins {
		for _, until := range []int{begin, begin + 1, begin + window - 1} {
			l := line(t, 1)
			s := span{begin, until}
			put(t, l, s)
			checkAt(t, l, begin-1, "", false, s)
			for day := begin; day <= until; day++ {
				checkAt(t, l, day, name(s), true, s)
			}
			checkAt(t, l, until+1, "", false, s)
		}
	}
}

// P13.1, P13.2
func TestAllTime(t *testing.T) {
	l, always := line(t, 2), span{0, api.MaxDay}
	check(t, l.Gap(always), api.MaxDay+1, "gap of a new one")
	put(t, l, always)
	checkParts(t, l, []part{{always, name(always)}}, "always")
	for _, day := range []int{0, 1, 19782, api.MaxDay - 1, api.MaxDay} {
		checkAt(t, l, day, name(always), true, "always")
		for _, s := range []span{{day, day}, {0, day}, {day, api.MaxDay}} {
			check(t, l.Set(s, "x"), api.ErrClash, "always, and", s)
			check(t, l.Gap(s), 0, "always, gap of", s)
		}
	}
	for _, day := range noDays {
		checkAt(t, l, day, "", false, "always")
	}
}

// P13.1
func TestClash(t *testing.T) {
	held := span{10, 20}
	for from := range 32 {
		for until := from; until < 32; until++ {
			l, s := line(t, 2), span{from, until}
			put(t, l, held)
			if until < 10 || from > 20 {
				check(t, l.Set(s, "x"), api.OK, "beside, from", from, "until", until)
				continue
			}
			check(t, l.Set(s, "x"), api.ErrClash, "from", from, "until", until)
			checkParts(t, l, []part{{held, name(held)}}, "behind a clash")
		}
	}
}

// P13.1
func TestErrorsInOrder(t *testing.T) {
	var none *timeline.Line[string]
	full := line(t, 2)
	put(t, full, span{5, 9}, span{20, api.MaxDay})
	want := partsOf(full.All())
	for _, s := range wrongSpans {
		check(t, none.Set(s, "x"), api.ErrNil, "nil, and", s)
		check(t, new(timeline.Line[string]).Set(s, "x"), api.ErrNil, "plain, and", s)
		check(t, full.Set(s, "x"), api.ErrRange, "full, and", s)
		checkParts(t, full, want, "behind", s)
	}
	for _, s := range []span{{5, 9}, {0, 5}, {9, 9}, {0, api.MaxDay}, {19, 20}, {api.MaxDay, api.MaxDay}} {
		check(t, full.Set(s, "x"), api.ErrClash, "full, and", s)
		checkParts(t, full, want, "behind", s)
	}
	for _, s := range []span{{0, 4}, {0, 0}, {10, 19}, {4, 4}} {
		check(t, full.Set(s, "x"), api.ErrFull, "full, and", s)
		checkParts(t, full, want, "behind", s)
	}
}

// P13.1
func TestWrongSpans(t *testing.T) {
	l := line(t, api.MaxSpans)
	for _, s := range wrongSpans {
		check(t, l.Set(s, "x"), api.ErrRange, "set", s)
		check(t, l.Len(), 0, "len behind", s)
	}
	put(t, l, span{0, 0}, span{api.MaxDay, api.MaxDay})
	for _, s := range wrongSpans {
		check(t, l.Set(s, "x"), api.ErrRange, "set again", s)
		check(t, l.Gap(s), 0, "gap of", s)
	}
	checkParts(t, l, []part{{span{0, 0}, "0 to 0"}, {span{api.MaxDay, api.MaxDay}, name(span{api.MaxDay, api.MaxDay})}}, "both ends")
}

// P13.1
func TestAllOfNothingIsNotNil(t *testing.T) {
	var none *timeline.Line[string]
	for what, l := range map[string]*timeline.Line[string]{"nil": none, "plain": {}, "new": line(t, 3)} {
		all := l.All()
		if all == nil {
			t.Fatal(what, "has nil for All")
		}
		check(t, len(partsOf(all)), 0, what)
	}
}

// P13.1
func TestAllIsLeft(t *testing.T) {
	l := line(t, 5)
	put(t, l, span{40, 40}, span{10, 12}, span{30, 30}, span{0, 9})
	for many := range 4 {
		var got []int
		for s := range l.All() {
			got = append(got, s.From)
			if len(got) > many {
				break
			}
		}
		if want := []int{0, 10, 30, 40}[:many+1]; !slices.Equal(got, want) {
			t.Error(got, "not", want)
		}
	}
}

// P13.1
func TestAllStaysAsItWas(t *testing.T) {
	l := line(t, 100)
	put(t, l, span{50, 50}, span{70, 79})
	var told []iter.Seq2[span, string]
	var ahead [][]part
	for i := range 25 { // from the last one to the first one, so that all others move, whatever room a list has
		told, ahead = append(told, l.All()), append(ahead, partsOf(l.All()))
		put(t, l, span{48 - 2*i, 48 - 2*i})
	}
	for range 2 {
		for i, all := range told {
			if got := partsOf(all); !slices.Equal(got, ahead[i]) {
				t.Fatal("what was told is", got, "not", ahead[i])
			}
		}
	}
	many := l.Len()
	for s := range l.All() { // what is set while all are told is not told
		put(t, l, span{1000 + s.From, 1000 + s.From})
		many--
	}
	check(t, many, 0, "spans told")
}

// P13.1
func TestClone(t *testing.T) {
	var none *timeline.Line[string]
	if none.Clone() != nil || new(timeline.Line[string]).Clone() != nil {
		t.Error("a clone of none")
	}
	for _, many := range []int{0, 1, 2, 3, 4} {
		l, m := line(t, 4), &model{most: 4}
		for i := range many {
			s := span{8 * i, 8*i + 2}
			put(t, l, s)
			m.set(s, name(s))
		}
		other, otherModel := l.Clone(), m.clone()
		if other == l {
			t.Fatal("a clone is the line itself")
		}
		checkIs(t, other, otherModel, 0, "clone of", many)
		for _, s := range []span{{4, 5}, {35, 36}, {2, 3}, {6, 6}} {
			check(t, other.Set(s, "clone"), otherModel.set(s, "clone"), "clone of", many, s)
			checkIs(t, other, otherModel, 0, "a clone, behind", s)
			checkIs(t, l, m, 0, "one whose clone was given", s)
		}
		for _, s := range []span{{5, 6}, {4, 4}, {38, 39}, {19, 20}} {
			check(t, l.Set(s, "first"), m.set(s, "first"), "first of", many, s)
			checkIs(t, l, m, 0, "the first one, behind", s)
			checkIs(t, other, otherModel, 0, "the clone of one that was given", s)
		}
	}
}

// meetModel tells the days that two spans have in common, gone over one by one.
func meetModel(a, b span, from, until int) (span, bool) {
	var told []int
	for day := from; day <= until; day++ {
		if isIn(day, a) && isIn(day, b) {
			told = append(told, day)
		}
	}
	if len(told) == 0 {
		return span{}, false
	}
	return span{told[0], told[len(told)-1]}, true
}

// P13.2
func TestMeet(t *testing.T) {
	for _, begin := range []int{-2, 100, api.MaxDay - 5} { // over both ends too
		var spans []span
		for from := range 8 {
			for until := range 8 {
				spans = append(spans, span{begin + from, begin + until})
			}
		}
		for _, a := range spans {
			for _, b := range spans {
				m, ok := timeline.Meet(a, b)
				want, wantOK := meetModel(a, b, begin, begin+8)
				check(t, m, want, a, "and", b)
				check(t, ok, wantOK, a, "and", b)
			}
		}
	}
}

// P13.2
func TestMeetOfWrongSpans(t *testing.T) {
	right := []span{{0, 0}, {0, api.MaxDay}, {api.MaxDay, api.MaxDay}, {10, 20}, {0, 30}}
	for _, a := range wrongSpans {
		for _, b := range slices.Concat(right, wrongSpans) {
			for _, two := range [][2]span{{a, b}, {b, a}} {
				m, ok := timeline.Meet(two[0], two[1])
				check(t, m, span{}, two)
				check(t, ok, false, two)
			}
		}
	}
	for _, a := range right {
		m, ok := timeline.Meet(a, span{0, api.MaxDay})
		check(t, m, a, a, "and all time")
		check(t, ok, true, a, "and all time")
	}
}

// P13.2
func TestGap(t *testing.T) {
	l := line(t, 10)
	put(t, l, span{10, 19}, span{20, 20}, span{25, 25}, span{1000, 1099})
	for _, c := range []struct {
		s    span
		want int
	}{
		{span{0, 9}, 10}, {span{0, 10}, 10}, {span{9, 9}, 1}, {span{10, 10}, 0}, {span{10, 20}, 0}, {span{12, 14}, 0},
		{span{10, 21}, 1}, {span{20, 25}, 4}, {span{21, 24}, 4}, {span{0, 30}, 19}, {span{25, 26}, 1}, {span{26, 999}, 974},
		{span{500, 1050}, 500}, {span{1050, 1200}, 101}, {span{1099, 1099}, 0}, {span{1100, 1100}, 1},
		{span{0, api.MaxDay}, api.MaxDay + 1 - 112}, {span{api.MaxDay, api.MaxDay}, 1}, {span{1100, api.MaxDay}, api.MaxDay - 1099},
	} {
		check(t, l.Gap(c.s), c.want, "gap of", c.s)
	}
	for _, s := range wrongSpans {
		check(t, l.Gap(s), 0, "gap of", s)
	}
}

// P13.1, P13.2
func TestNoLine(t *testing.T) {
	var none *timeline.Line[string]
	for what, l := range map[string]*timeline.Line[string]{"nil": none, "plain": {}, "new": new(timeline.Line[string]), "of no room": timeline.New[string](0)} {
		check(t, l.Set(span{0, 0}, "x"), api.ErrNil, what)
		check(t, l.Len(), 0, what, "len")
		for _, day := range append([]int{0, 1, api.MaxDay}, noDays...) {
			checkAt(t, l, day, "", false, what)
		}
		for _, s := range append([]span{{0, 0}, {0, api.MaxDay}, {10, 20}}, wrongSpans...) {
			check(t, l.Gap(s), 0, what, "gap of", s)
		}
		check(t, len(partsOf(l.All())), 0, what, "all")
		if l.Clone() != nil {
			t.Error(what, "has a clone")
		}
	}
}

// checkOf holds a line of any type to tell what was set, and nothing where nothing was.
func checkOf[T any](t *testing.T, x T, same func(a, b T) bool) {
	t.Helper()
	l := timeline.New[T](1)
	var nothing T
	check(t, l.Set(span{3, 4}, x), api.OK, "set", x)
	got, ok := l.At(4)
	check(t, ok && same(got, x), true, "what holds", got)
	got, ok = l.At(5)
	check(t, !ok && same(got, nothing), true, "where nothing holds", got)
	for s, got := range l.Clone().All() {
		check(t, s, span{3, 4}, "span")
		check(t, same(got, x), true, "what a clone holds", got)
	}
}

// P13.1
func TestWhateverHolds(t *testing.T) {
	is := func(a, b any) bool { return a == b }
	checkOf(t, 7, func(a, b int) bool { return a == b })
	checkOf(t, 0, func(a, b int) bool { return a == b })
	checkOf(t, span{1, 2}, func(a, b span) bool { return a == b })
	checkOf(t, &span{1, 2}, func(a, b *span) bool { return a == b })
	checkOf(t, struct{}{}, func(a, b struct{}) bool { return a == b })
	checkOf[any](t, "x", is)
	checkOf[any](t, nil, is)
	checkOf(t, []int{1, 2}, slices.Equal[[]int])
	checkOf(t, func() int { return 3 }, func(a, b func() int) bool { return (a == nil) == (b == nil) })
}

// P13.3
func TestSpansAreApart(t *testing.T) {
	c := rand.New(rand.NewSource(133))
	for range 200 {
		l, days := line(t, api.MaxSpans), 200+c.Intn(200)
		for range 300 {
			from := c.Intn(days)
			s := span{from, from + c.Intn(12)}
			l.Set(s, name(s))
		}
		all := partsOf(l.All())
		for i, p := range all {
			if i > 0 && all[i-1].s.Until >= p.s.From {
				t.Fatal(all[i-1], "is not apart from", p)
			}
			for day := p.s.From; day <= p.s.Until; day++ {
				checkAt(t, l, day, p.x, true, p.s)
			}
		}
	}
}

// orders hands out each order of a list.
func orders(l []span, do func([]span)) {
	if len(l) == 0 {
		do(nil)
	}
	for i := range l {
		orders(slices.Delete(slices.Clone(l), i, i+1), func(rest []span) { do(append([]span{l[i]}, rest...)) })
	}
}

// P13.4
func TestOrderIsNothing(t *testing.T) {
	for _, begin := range begins {
		spans := []span{{begin, begin}, {begin + 1, begin + 4}, {begin + 6, begin + 6}, {begin + 9, begin + 20}, {begin + 30, begin + window - 1}}
		m := &model{most: len(spans)}
		for _, s := range spans {
			check(t, m.set(s, name(s)), api.OK, "model", s)
		}
		orders(spans, func(l []span) {
			got := line(t, len(spans))
			put(t, got, l...)
			checkIs(t, got, m, begin, l)
		})
	}
}

// P13.4
func TestOrderIsNothingOfAFullLine(t *testing.T) {
	c := rand.New(rand.NewSource(134))
	var spans []span
	for i := range api.MaxSpans {
		from := i * (api.MaxDay / api.MaxSpans)
		spans = append(spans, span{from, from + c.Intn(api.MaxDay/api.MaxSpans)})
	}
	first := line(t, api.MaxSpans)
	put(t, first, spans...)
	want := partsOf(first.All())
	for range 20 {
		c.Shuffle(len(spans), func(i, j int) { spans[i], spans[j] = spans[j], spans[i] })
		l := line(t, api.MaxSpans)
		put(t, l, spans...)
		checkParts(t, l, want, "in another order")
		for _, p := range want {
			checkAt(t, l, p.s.From, p.x, true, p.s)
			checkAt(t, l, p.s.Until, p.x, true, p.s)
		}
		check(t, l.Gap(span{0, api.MaxDay}), first.Gap(span{0, api.MaxDay}), "gap in another order")
	}
}

// some tells a span by chance, in a window or a little beside it; some of them are none.
func some(c *rand.Rand, begin int) span {
	if c.Intn(12) == 0 {
		return wrongSpans[c.Intn(len(wrongSpans))]
	}
	from := begin - 1 + c.Intn(window+2)
	return span{from, from - 1 + c.Intn(7)}
}

// P13.1, P13.2, P13.3
func TestLineIsTheModels(t *testing.T) {
	c := rand.New(rand.NewSource(13))
	for i := range 240 {
		begin, most := begins[i%len(begins)], 1+c.Intn(12)
		lines, models := []*timeline.Line[string]{line(t, most)}, []*model{{most: most}}
		for step := range 50 {
			at := c.Intn(len(lines))
			if c.Intn(16) == 0 {
				lines, models = append(lines, lines[at].Clone()), append(models, models[at].clone())
			}
			s, x := some(c, begin), strconv.Itoa(step)
			check(t, lines[at].Set(s, x), models[at].set(s, x), "step", step, "set", s)
			for j := range lines { // a step on one of them changes no other
				checkIs(t, lines[j], models[j], begin, "line", j, "behind step", step, "on", at)
			}
			s = some(c, begin)
			check(t, lines[at].Gap(s), models[at].gap(s), "gap of", s)
		}
	}
}
