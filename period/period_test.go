package period_test

import (
	"math"
	"math/rand"
	"slices"
	"testing"
	"time"

	"octroi/api"
	"octroi/period"
)

const (
	lastMonth = (api.MaxYear-api.MinYear+1)*12 - 1 // months and quarters are counted from 1970 on
	lastQtr   = (api.MaxYear-api.MinYear+1)*4 - 1
)

var (
	noKinds = []int{0, -1, 4, api.Year, math.MaxInt, math.MinInt, 1<<32 + api.Month, 1<<32 + api.Quarter, -api.Month}
	noDays  = []int{-1, -31, api.MaxDay + 1, api.MaxDay + 366, math.MaxInt, math.MinInt, math.MaxInt - 1, 1 << 32, -1 << 32}
	nothing = api.Period{}
)

func month(y, index int) api.Period { return api.Period{Kind: api.Month, Year: y, Index: index} }

func quarter(y, index int) api.Period { return api.Period{Kind: api.Quarter, Year: y, Index: index} }

// day tells a day's number by the library's calendar.
func day(y, m, d int) int {
	return int(time.Date(y, time.Month(m), d, 0, 0, 0, 0, time.UTC).Unix() / 86400)
}

// number tells the how manieth period of a kind has a day, from 1970 on, by the library's calendar.
func number(kind, n int) int {
	at := time.Unix(int64(n)*86400, 0).UTC()
	months := (at.Year()-api.MinYear)*12 + int(at.Month()) - 1
	if kind == api.Quarter {
		return months / 3
	}
	return months
}

// nth tells the period of such a number; nothing, of none.
func nth(kind, n int) api.Period {
	yearly := 12
	if kind == api.Quarter {
		yearly = 4
	}
	if n < 0 || n >= (api.MaxYear-api.MinYear+1)*yearly {
		return nothing
	}
	return api.Period{Kind: kind, Year: api.MinYear + n/yearly, Index: 1 + n%yearly}
}

// model is a clock, word for word as the document says it: the states of its periods, of those that are not open.
type model struct {
	kind, from, first int // from: the day that it was made of
	states            map[int]int
}

func newModel(kind, n int) *model { return &model{kind, n, number(kind, n), map[int]int{}} }

func (m *model) last() int {
	if m.kind == api.Quarter {
		return lastQtr
	}
	return lastMonth
}

func (m *model) state(n int) int {
	switch {
	case n < m.first || n > m.last():
		return 0
	case m.states[n] == 0:
		return period.Open
	}
	return m.states[n]
}

// any tells whether a period ahead of the one of a number is of one of these states.
func (m *model) any(n int, states ...int) bool {
	for ; n > m.first; n-- {
		if slices.Contains(states, m.state(n-1)) {
			return true
		}
	}
	return false
}

func (m *model) close(n int) api.Errno {
	switch {
	case m.state(n) == 0:
		return api.ErrArg
	case m.state(n) != period.Open:
		return api.ErrClosed
	case m.any(n, period.Open):
		return api.ErrState
	}
	m.states[n] = period.Closed
	return api.OK
}

func (m *model) file(n int) api.Errno {
	switch {
	case m.state(n) == 0:
		return api.ErrArg
	case m.state(n) != period.Closed, m.any(n, period.Open, period.Closed):
		return api.ErrState
	}
	m.states[n] = period.Filed
	return api.OK
}

// open tells the first period that is open; one behind the last one, if none is.
func (m *model) open() int {
	n := m.first
	for m.state(n) > period.Open {
		n++
	}
	return n
}

func (m *model) filed() []api.Period {
	var l []api.Period
	for n := m.first; m.state(n) != 0 && n-m.first < len(m.states); n++ {
		if m.state(n) == period.Filed {
			l = append(l, nth(m.kind, n))
		}
	}
	return l
}

// routed is what Route tells.
type routed struct {
	period, origin api.Period
	e              api.Errno
}

func route(c *period.Clock, n int) routed {
	p, origin, e := c.Route(n)
	return routed{p, origin, e}
}

func (m *model) route(n int) routed {
	if n < 0 || n > api.MaxDay || number(m.kind, n) < m.first {
		return routed{e: api.ErrRange}
	}
	open := m.open()
	if open > m.last() {
		return routed{e: api.ErrClosed}
	}
	return routed{nth(m.kind, max(open, number(m.kind, n))), nth(m.kind, number(m.kind, n)), api.OK}
}

// same asks whether a clock is its model, from some periods ahead of its first one to some behind those that are not open.
func same(t *testing.T, c *period.Clock, m *model) {
	t.Helper()
	if c.Kind() != m.kind || c.First() != nth(m.kind, m.open()) {
		t.Fatal("kind, first", c.Kind(), c.First(), m.open())
	}
	if got, want := c.Filed(), m.filed(); !slices.Equal(got, want) {
		t.Fatal("filed", got, want)
	}
	for n := m.first - 3; n <= m.first+len(m.states)+3; n++ {
		if p := nth(m.kind, n); c.State(p) != m.state(n) {
			t.Fatal("state", p, c.State(p), m.state(n))
		}
	}
	for n := m.from - 200; n <= m.from+100*(len(m.states)+2); n += 1 + len(m.states) {
		if got, want := route(c, n), m.route(n); got != want {
			t.Fatal("route", n, got, want)
		}
	}
}

// made tells a clock and its model.
func made(t *testing.T, kind, n int) (*period.Clock, *model) {
	t.Helper()
	c := period.New(kind, n)
	if c == nil {
		t.Fatal("nil", kind, n)
	}
	return c, newModel(kind, n)
}

// shut closes the next so many periods that are open, and files the first so many of all.
func shut(t *testing.T, c *period.Clock, m *model, closed, filed int) {
	t.Helper()
	for range closed {
		n := m.open()
		if e := c.Close(nth(m.kind, n)); e != api.OK || m.close(n) != api.OK {
			t.Fatal("close", n, e)
		}
	}
	for n := m.first; n < m.first+filed; n++ {
		if e := c.File(nth(m.kind, n)); e != api.OK || m.file(n) != api.OK {
			t.Fatal("file", n, e)
		}
	}
}

// noPeriods tells periods that are none, or none of a clock of a kind.
func noPeriods(kind int) []api.Period {
	other := api.Month + api.Quarter - kind
	return []api.Period{
		nothing, {Kind: kind}, {Kind: kind, Year: 2022}, {Kind: kind, Year: 2022, Index: 13}, {Kind: kind, Year: 2022, Index: -1}, {Kind: kind, Year: 10000, Index: 1},
		{Kind: kind, Year: 1969, Index: 1}, {Kind: other, Year: 2022, Index: 1}, {Kind: other, Year: 2022, Index: 2}, {Kind: api.Year, Year: 2022, Index: 1},
		{Kind: api.Year, Year: 2023, Index: 1}, {Kind: 4, Year: 2022, Index: 1}, {Kind: 0, Year: 2022, Index: 1}, {Kind: kind, Year: math.MaxInt, Index: 1},
		{Kind: kind, Year: math.MinInt, Index: 1}, {Kind: kind, Year: 2022, Index: math.MaxInt}, {Kind: math.MaxInt, Year: math.MaxInt, Index: math.MaxInt},
		{Kind: kind, Year: 1<<32 + 2022, Index: 1}, {Kind: 1<<32 + kind, Year: 2022, Index: 1}, {Kind: kind, Year: 2022, Index: 1<<32 + 1},
	}
}

// P27.1: a clock of each kind there may be, of each day of some years and of the first and last ones there are.
func TestNew(t *testing.T) {
	for _, kind := range []int{api.Month, api.Quarter} {
		for _, from := range []int{0, day(2020, 1, 1), day(2021, 12, 1), api.MaxDay - 400} {
			for n := from; n <= from+400; n++ {
				c, m := made(t, kind, n)
				if c.Kind() != kind || c.First() != nth(kind, m.first) || c.State(c.First()) != period.Open || len(c.Filed()) != 0 {
					t.Fatal(kind, n, c.First())
				}
			}
		}
		c, m := made(t, kind, day(2022, 1, 31))
		same(t, c, m)
		if other := period.New(kind, day(2022, 1, 31)); other == c {
			t.Error("one clock")
		}
	}
}

// P27.1: another kind, or no day's number.
func TestNewRefused(t *testing.T) {
	days := []int{0, 1, 31, day(2022, 1, 1), api.MaxDay}
	for _, kind := range noKinds {
		for _, n := range slices.Concat(days, noDays) {
			if period.New(kind, n) != nil {
				t.Error(kind, n)
			}
		}
	}
	for _, kind := range []int{api.Month, api.Quarter} {
		for _, n := range noDays {
			if period.New(kind, n) != nil {
				t.Error(kind, n)
			}
		}
	}
}

// P27.1: the example: January is closed, and a day in January counts in February.
func TestTold(t *testing.T) {
	january, february, march := month(2022, 1), month(2022, 2), month(2022, 3)
	c := period.New(api.Month, day(2022, 1, 1))
	in, out := day(2022, 1, 20), day(2022, 3, 1)
	if got := route(c, in); got != (routed{january, january, api.OK}) {
		t.Error(got)
	}
	if e := c.Close(january); e != api.OK {
		t.Error(e)
	}
	if got := route(c, in); got != (routed{february, january, api.OK}) {
		t.Error(got)
	}
	if got := route(c, out); got != (routed{march, march, api.OK}) { // open, and not the first one
		t.Error(got)
	}
	if c.State(january) != period.Closed || c.State(february) != period.Open || c.State(march) != period.Open || c.First() != february || c.State(month(2021, 12)) != 0 {
		t.Error(c.State(january), c.First())
	}
	if e := c.Close(march); e != api.ErrState {
		t.Error(e)
	}
	if e := c.File(january); e != api.OK || c.State(january) != period.Filed || c.First() != february {
		t.Error(e)
	}
	if l := c.Filed(); !slices.Equal(l, []api.Period{january}) {
		t.Error(l)
	}
	if got := route(c, in); got != (routed{february, january, api.OK}) {
		t.Error(got)
	}
}

// P27.1: State of what is no period, one of another kind, or ahead of the first one.
func TestStateOfNone(t *testing.T) {
	for _, kind := range []int{api.Month, api.Quarter} {
		for closed := range 4 {
			for filed := range closed + 1 {
				c, m := made(t, kind, day(2022, 1, 1))
				shut(t, c, m, closed, filed)
				for _, p := range append(noPeriods(kind), nth(kind, m.first-1), nth(kind, 0)) {
					if c.State(p) != 0 || c.Close(p) != api.ErrArg || c.File(p) != api.ErrArg {
						t.Error(p, c.State(p), c.Close(p), c.File(p))
					}
				}
				same(t, c, m)
				if last := nth(kind, m.last()); c.State(last) != period.Open || c.Close(last) != api.ErrState || c.File(last) != api.ErrState {
					t.Error(last)
				}
			}
		}
	}
}

// P27.2: errors in their order, of each period, with so many closed, and so many filed.
func TestCloseAndFile(t *testing.T) {
	for _, kind := range []int{api.Month, api.Quarter} {
		for _, from := range []int{0, day(2021, 9, 30), api.MaxDay - 200} {
			for closed := range 7 {
				for filed := range closed + 1 {
					for n := -2; n < 8; n++ {
						stepTwice(t, kind, from, closed, filed, n)
					}
				}
			}
		}
	}
}

// stepTwice closes a period of a new clock, and files it, and does so again, unless that many can't be closed.
func stepTwice(t *testing.T, kind, from, closed, filed, n int) {
	t.Helper()
	c, m := made(t, kind, from)
	if m.last()-m.first+1 < closed {
		return
	}
	shut(t, c, m, closed, filed)
	same(t, c, m)
	p := nth(kind, m.first+n)
	for i := range 4 {
		if i%2 == 0 {
			if got, want := c.File(p), m.file(m.first+n); got != want {
				t.Fatal("file", p, closed, filed, got, want)
			}
		} else if got, want := c.Close(p), m.close(m.first+n); got != want {
			t.Fatal("close", p, closed, filed, got, want)
		}
		same(t, c, m)
	}
}

// P27.2: Route of no day, of a day ahead of the first period, and of those at its border.
func TestRouteRefused(t *testing.T) {
	for _, kind := range []int{api.Month, api.Quarter} {
		for closed := range 3 {
			for _, from := range []int{0, day(2022, 2, 14), day(2022, 3, 31)} {
				c, m := made(t, kind, from)
				shut(t, c, m, closed, 0)
				for _, n := range append([]int{from - 100, from - 91}, noDays...) {
					if got := route(c, n); got != (routed{e: api.ErrRange}) {
						t.Error(n, got)
					}
				}
			}
		}
	}
	c := period.New(api.Quarter, day(2022, 5, 9))
	for n, want := range map[int]routed{
		day(2022, 3, 31):  {e: api.ErrRange},
		day(2022, 4, 1):   {quarter(2022, 2), quarter(2022, 2), api.OK},
		day(2022, 6, 30):  {quarter(2022, 2), quarter(2022, 2), api.OK},
		day(2022, 7, 1):   {quarter(2022, 3), quarter(2022, 3), api.OK},
		day(9999, 12, 31): {quarter(9999, 4), quarter(9999, 4), api.OK},
	} {
		if got := route(c, n); got != want {
			t.Error(n, got, want)
		}
	}
}

// P27.1, P27.2: no period is open any more; its kind stays, and what is no day of its own is told first.
func TestNoneOpen(t *testing.T) {
	for kind, from := range map[int]int{api.Month: day(9999, 10, 5), api.Quarter: day(9999, 4, 5)} {
		for filed := range 4 {
			c, m := made(t, kind, from)
			shut(t, c, m, 2, 0)
			if got := route(c, api.MaxDay); got.e != api.OK || got.period != c.First() || c.First() != nth(kind, m.last()) {
				t.Error(got)
			}
			shut(t, c, m, 1, filed)
			same(t, c, m)
			if c.First() != nothing || c.Kind() != kind {
				t.Error(c.First(), c.Kind())
			}
			for n, want := range map[int]api.Errno{api.MaxDay: api.ErrClosed, from: api.ErrClosed, api.MaxDay + 1: api.ErrRange, -1: api.ErrRange, from - 92: api.ErrRange} {
				if got := route(c, n); got != (routed{e: want}) {
					t.Error(n, got, want)
				}
			}
			for n := m.first; n <= m.last(); n++ {
				if e := c.Close(nth(kind, n)); e != api.ErrClosed {
					t.Error(e)
				}
			}
			if e := c.Close(nothing); e != api.ErrArg {
				t.Error(e)
			}
			if e := c.File(nothing); e != api.ErrArg {
				t.Error(e)
			}
			same(t, c, m)
		}
	}
}

// P27.1, P27.3: all periods there are, closed and filed once each.
func TestAllThereAre(t *testing.T) {
	for _, kind := range []int{api.Month, api.Quarter} {
		c, m := made(t, kind, 0)
		for n := 0; n <= m.last(); n++ {
			p := nth(kind, n)
			if c.First() != p || c.File(p) != api.ErrState || c.Close(p) != api.OK || c.Close(p) != api.ErrClosed || c.State(p) != period.Closed {
				t.Fatal(p)
			}
			if c.File(p) != api.OK || c.File(p) != api.ErrState || c.Close(p) != api.ErrClosed || c.State(p) != period.Filed {
				t.Fatal(p)
			}
		}
		l := c.Filed()
		if len(l) != m.last()+1 || c.First() != nothing {
			t.Fatal(len(l))
		}
		for n, p := range l {
			if p != nth(kind, n) || c.State(p) != period.Filed {
				t.Fatal(n, p)
			}
		}
	}
}

// P27.1, P27.2: by chance: what clocks tell is what their models do, and their clones go ways of their own.
func TestByChance(t *testing.T) {
	r := rand.New(rand.NewSource(271))
	for range 120 {
		kind := api.Month + r.Intn(2)
		from := []int{r.Intn(400), r.Intn(api.MaxDay), api.MaxDay - r.Intn(400)}[r.Intn(3)]
		c, m := made(t, kind, from)
		for range 30 {
			n := m.open() + r.Intn(5) - 3
			switch r.Intn(6) {
			case 0:
				n = m.first + r.Intn(12) - 2
				fallthrough
			case 1, 2:
				if got, want := c.File(nth(kind, n)), m.file(n); got != want {
					t.Fatal("file", n, got, want)
				}
			case 3:
				c = other(t, c, m)
			default:
				if got, want := c.Close(nth(kind, n)), m.close(n); got != want {
					t.Fatal("close", n, got, want)
				}
			}
			same(t, c, m)
			neverBack(t, c, m)
		}
	}
}

// other tells a clone of a clock, which goes on without it.
func other(t *testing.T, c *period.Clock, m *model) *period.Clock {
	t.Helper()
	clone := c.Clone()
	if clone == c || clone == nil {
		t.Fatal("clone")
	}
	same(t, clone, m)
	for range 2 {
		c.Close(c.First())
		c.File(nth(m.kind, m.first+len(c.Filed())))
	}
	same(t, clone, m)
	return clone
}

// P27.4: where something counts is never ahead of where it belongs, and is open.
func neverBack(t *testing.T, c *period.Clock, m *model) {
	t.Helper()
	for n := m.from; n <= m.from+1200; n += 17 {
		p, origin, e := c.Route(n)
		if e != api.OK {
			continue
		}
		if c.State(p) != period.Open || p.Kind != m.kind || p.Year < origin.Year || p.Year == origin.Year && p.Index < origin.Index {
			t.Fatal(n, p, origin)
		}
	}
}

// P27.3: what is filed stays so, whatever comes behind it.
func TestOnce(t *testing.T) {
	c, m := made(t, api.Month, day(2022, 1, 1))
	shut(t, c, m, 5, 3)
	was := c.Filed()
	for n := m.first - 1; n < m.first+12; n++ {
		c.File(nth(api.Month, n))
		c.Close(nth(api.Month, n))
		for _, p := range was {
			if c.State(p) != period.Filed {
				t.Fatal(n, p)
			}
		}
		if !slices.Equal(c.Filed()[:3], was) {
			t.Fatal(n, c.Filed())
		}
	}
}

// P27.1: a list that Filed told is the caller's own.
func TestFiledIsNewMemory(t *testing.T) {
	c, m := made(t, api.Quarter, day(2022, 1, 1))
	shut(t, c, m, 3, 3)
	l := c.Filed()
	clear(l)
	_ = append(l, nothing)
	same(t, c, m)
}

// Rule 1: a clock that is nil, or that no call made.
func TestNoClock(t *testing.T) {
	for _, c := range []*period.Clock{nil, {}, new(period.Clock)} {
		for _, p := range append(noPeriods(api.Month), month(2022, 1), month(1970, 1), quarter(9999, 4)) {
			if c.State(p) != 0 || c.Close(p) != api.ErrNil || c.File(p) != api.ErrNil {
				t.Error(p)
			}
		}
		for _, n := range append([]int{0, day(2022, 1, 1), api.MaxDay}, noDays...) {
			if got := route(c, n); got != (routed{e: api.ErrNil}) {
				t.Error(got)
			}
		}
		if c.Kind() != 0 || c.First() != nothing || len(c.Filed()) != 0 || c.Clone() != nil {
			t.Error("told")
		}
	}
}
