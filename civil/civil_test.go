package civil_test

import (
	"cmp"
	"math"
	"testing"
	"time"

	"octroi/api"
	"octroi/civil"
)

var kinds = []int{api.Month, api.Quarter, api.Year}

// notYears and notDays are numbers of none.
var (
	notYears = []int{api.MinYear - 1, api.MaxYear + 1, 1968, 1600, 10000, 10004, 0, -1, -4, math.MaxInt, math.MinInt}
	notDays  = []int{-1, api.MaxDay + 1, -366, math.MaxInt, math.MinInt}
)

// notGood are periods that are not right.
var notGood = []api.Period{
	{},
	{Kind: 0, Year: 2024, Index: 1},
	{Kind: 4, Year: 2024, Index: 1},
	{Kind: -1, Year: 2024, Index: 1},
	{Kind: math.MinInt, Year: 2024, Index: 1},
	{Kind: math.MaxInt, Year: 2024, Index: 1},
	{Kind: api.Month, Year: 2024, Index: 0},
	{Kind: api.Month, Year: 2024, Index: 13},
	{Kind: api.Month, Year: 2024, Index: -1},
	{Kind: api.Month, Year: 2024, Index: math.MinInt},
	{Kind: api.Month, Year: 2024, Index: math.MaxInt},
	{Kind: api.Quarter, Year: 2024, Index: 0},
	{Kind: api.Quarter, Year: 2024, Index: 5},
	{Kind: api.Quarter, Year: 2024, Index: -1},
	{Kind: api.Year, Year: 2024, Index: 0},
	{Kind: api.Year, Year: 2024, Index: 2},
	{Kind: api.Year, Year: 2024, Index: 2024},
	{Kind: api.Month, Year: 1969, Index: 12},
	{Kind: api.Quarter, Year: 1969, Index: 4},
	{Kind: api.Year, Year: 1969, Index: 1},
	{Kind: api.Month, Year: 10000, Index: 1},
	{Kind: api.Quarter, Year: 10000, Index: 1},
	{Kind: api.Year, Year: 10000, Index: 1},
	{Kind: api.Year, Year: -2024, Index: 1},
	{Kind: api.Month, Year: math.MaxInt, Index: 1},
	{Kind: api.Quarter, Year: math.MinInt, Index: 1},
}

func month(year, index int) api.Period { return api.Period{Kind: api.Month, Year: year, Index: index} }

func quarter(year, index int) api.Period {
	return api.Period{Kind: api.Quarter, Year: year, Index: index}
}

func year(n int) api.Period { return api.Period{Kind: api.Year, Year: n, Index: 1} }

// each tells how many periods of a kind a year has.
func each(kind int) int { return []int{0, 12, 4, 1}[kind] }

// periods tells all of a kind, in their order.
func periods(kind int) []api.Period {
	var l []api.Period
	for y := api.MinYear; y <= api.MaxYear; y++ {
		for i := 1; i <= each(kind); i++ {
			l = append(l, api.Period{Kind: kind, Year: y, Index: i})
		}
	}
	return l
}

type dayAnswer struct {
	n int
	e api.Errno
}

func toldDay(n int, e api.Errno) dayAnswer { return dayAnswer{n, e} }

type periodAnswer struct {
	p api.Period
	e api.Errno
}

func toldPeriod(p api.Period, e api.Errno) periodAnswer { return periodAnswer{p, e} }

type dateAnswer struct {
	year, month, day int
	e                api.Errno
}

func toldDate(year, month, day int, e api.Errno) dateAnswer { return dateAnswer{year, month, day, e} }

func check[T comparable](t *testing.T, got, want T, what ...any) {
	t.Helper()
	if got != want {
		t.Errorf("%v: %v, not %v", what, got, want)
	}
}

// number is the model of a day's number: the library's calendar is the Gregorian one.
func number(year, month, day int) int {
	return int(time.Date(year, time.Month(month), day, 0, 0, 0, 0, time.UTC).Unix() / (24 * 60 * 60))
}

// bounds is the model of a right period's first and last day.
func bounds(p api.Period) (first, last int) {
	length := 12 / each(p.Kind)
	return number(p.Year, 1+(p.Index-1)*length, 1), number(p.Year, 1+p.Index*length, 0)
}

// P4.1
func TestLeap(t *testing.T) {
	for _, y := range []int{1972, 2000, 2024, 2400, 9996} {
		check(t, civil.Leap(y), true, y)
	}
	for _, y := range append([]int{1970, 1971, 1973, 2023, 2100, 2200, 2300, 9900, 9999}, notYears...) {
		check(t, civil.Leap(y), false, y)
	}
	for y := api.MinYear; y <= api.MaxYear; y++ {
		check(t, civil.Leap(y), number(y+1, 1, 1)-number(y, 1, 1) == 366, y)
	}
}

// P4.1
func TestLen(t *testing.T) {
	for y := api.MinYear; y <= api.MaxYear; y++ {
		for m := 1; m <= 12; m++ {
			check(t, civil.Len(y, m), number(y, m+1, 1)-number(y, m, 1), y, m)
		}
		for _, m := range []int{0, 13, -1, math.MinInt, math.MaxInt} {
			check(t, civil.Len(y, m), 0, y, m)
		}
	}
	for _, y := range notYears {
		check(t, civil.Len(y, 1), 0, y)
		check(t, civil.Len(y, 2), 0, y)
	}
}

// P4.1
func TestDayTold(t *testing.T) {
	for _, x := range []struct {
		year, month, day int
		want             dayAnswer
	}{
		{1970, 1, 1, dayAnswer{0, api.OK}},
		{1970, 12, 31, dayAnswer{364, api.OK}},
		{2024, 2, 29, dayAnswer{19782, api.OK}},
		{2024, 3, 1, dayAnswer{19783, api.OK}},
		{9999, 12, 31, dayAnswer{api.MaxDay, api.OK}},
		{1969, 12, 31, dayAnswer{0, api.ErrRange}},
		{10000, 1, 1, dayAnswer{0, api.ErrRange}},
		{2023, 2, 29, dayAnswer{0, api.ErrRange}},
		{2100, 2, 29, dayAnswer{0, api.ErrRange}},
		{2024, 2, 30, dayAnswer{0, api.ErrRange}},
		{2024, 4, 31, dayAnswer{0, api.ErrRange}},
		{2024, 1, 32, dayAnswer{0, api.ErrRange}},
		{2024, 1, 0, dayAnswer{0, api.ErrRange}},
		{2024, 1, -1, dayAnswer{0, api.ErrRange}},
		{2024, 0, 1, dayAnswer{0, api.ErrRange}},
		{2024, 0, 0, dayAnswer{0, api.ErrRange}},
		{2024, 13, 1, dayAnswer{0, api.ErrRange}},
		{2024, -1, 1, dayAnswer{0, api.ErrRange}},
		{2024, math.MinInt, 1, dayAnswer{0, api.ErrRange}},
		{2024, math.MaxInt, 1, dayAnswer{0, api.ErrRange}},
		{2024, 1, math.MaxInt, dayAnswer{0, api.ErrRange}},
		{2024, 1, math.MinInt, dayAnswer{0, api.ErrRange}},
		{math.MaxInt, 1, 1, dayAnswer{0, api.ErrRange}},
		{math.MinInt, 1, 1, dayAnswer{0, api.ErrRange}},
	} {
		check(t, toldDay(civil.Day(x.year, x.month, x.day)), x.want, x.year, x.month, x.day)
	}
	for _, y := range notYears {
		check(t, toldDay(civil.Day(y, 1, 1)), dayAnswer{0, api.ErrRange}, y)
	}
}

// P4.1, P4.4: each day there is, counted by the library
func TestEachDay(t *testing.T) {
	n := 0
	for day := time.Date(1970, 1, 1, 0, 0, 0, 0, time.UTC); day.Year() <= 9999; day = day.AddDate(0, 0, 1) {
		y, m, d := day.Date()
		if got := toldDate(civil.Date(n)); got != (dateAnswer{y, int(m), d, api.OK}) {
			t.Fatal("Date of", n, got)
		}
		if got := toldDay(civil.Day(y, int(m), d)); got != (dayAnswer{n, api.OK}) {
			t.Fatal("Day of", y, m, d, got)
		}
		n++
	}
	check(t, n, api.MaxDay+1, "days")
}

// P4.1
func TestDateRefused(t *testing.T) {
	for _, n := range notDays {
		check(t, toldDate(civil.Date(n)), dateAnswer{0, 0, 0, api.ErrRange}, n)
	}
}

// P4.2
func TestGood(t *testing.T) {
	for _, kind := range kinds {
		for _, y := range []int{api.MinYear, 2024, api.MaxYear} {
			for i := -20; i <= 20; i++ {
				check(t, civil.Good(api.Period{Kind: kind, Year: y, Index: i}), i >= 1 && i <= each(kind), kind, y, i)
			}
		}
	}
	for _, p := range notGood {
		check(t, civil.Good(p), false, p)
	}
}

// P4.2
func TestOfTold(t *testing.T) {
	for _, x := range []struct {
		n, kind int
		want    periodAnswer
	}{
		{19782, api.Month, periodAnswer{month(2024, 2), api.OK}},
		{19782, api.Quarter, periodAnswer{quarter(2024, 1), api.OK}},
		{19782, api.Year, periodAnswer{year(2024), api.OK}},
		{0, api.Month, periodAnswer{month(1970, 1), api.OK}},
		{0, api.Year, periodAnswer{year(1970), api.OK}},
		{api.MaxDay, api.Month, periodAnswer{month(9999, 12), api.OK}},
		{api.MaxDay, api.Quarter, periodAnswer{quarter(9999, 4), api.OK}},
		{api.MaxDay, api.Year, periodAnswer{year(9999), api.OK}},
		{-1, api.Month, periodAnswer{api.Period{}, api.ErrRange}},
		{api.MaxDay + 1, api.Year, periodAnswer{api.Period{}, api.ErrRange}},
		{math.MinInt, api.Quarter, periodAnswer{api.Period{}, api.ErrRange}},
		{math.MaxInt, api.Quarter, periodAnswer{api.Period{}, api.ErrRange}},
		{5, 0, periodAnswer{api.Period{}, api.ErrArg}},
		{5, 4, periodAnswer{api.Period{}, api.ErrArg}},
		{5, -1, periodAnswer{api.Period{}, api.ErrArg}},
		{5, math.MinInt, periodAnswer{api.Period{}, api.ErrArg}},
		{api.MaxDay, math.MaxInt, periodAnswer{api.Period{}, api.ErrArg}},
		// Of both errors the day's comes first.
		{-1, 0, periodAnswer{api.Period{}, api.ErrRange}},
		{api.MaxDay + 1, 4, periodAnswer{api.Period{}, api.ErrRange}},
	} {
		check(t, toldPeriod(civil.Of(x.n, x.kind)), x.want, x.n, x.kind)
	}
}

// P4.2, P4.4: each day of each period is that period's
func TestOfEachDay(t *testing.T) {
	for _, kind := range kinds {
		for _, p := range periods(kind) {
			first, last := bounds(p)
			for n := first; n <= last; n++ {
				if got := toldPeriod(civil.Of(n, kind)); got != (periodAnswer{p, api.OK}) {
					t.Fatal("Of", n, kind, got)
				}
			}
		}
	}
}

// P4.2, P4.4, P4.5
func TestFirstAndLast(t *testing.T) {
	for _, kind := range kinds {
		behind := 0
		for _, p := range periods(kind) {
			first, last := bounds(p)
			check(t, toldDay(civil.First(p)), dayAnswer{first, api.OK}, "First", p)
			check(t, toldDay(civil.Last(p)), dayAnswer{last, api.OK}, "Last", p)
			check(t, first, behind, "begins", p)
			behind = last + 1
		}
		check(t, behind, api.MaxDay+1, "ends", kind)
	}
	for _, p := range notGood {
		check(t, toldDay(civil.First(p)), dayAnswer{0, api.ErrArg}, "First", p)
		check(t, toldDay(civil.Last(p)), dayAnswer{0, api.ErrArg}, "Last", p)
	}
}

// P4.2
func TestNextTold(t *testing.T) {
	for _, x := range []struct {
		p    api.Period
		by   int
		want periodAnswer
	}{
		{quarter(2024, 1), -1, periodAnswer{quarter(2023, 4), api.OK}},
		{quarter(2024, 1), 0, periodAnswer{quarter(2024, 1), api.OK}},
		{quarter(2024, 4), 1, periodAnswer{quarter(2025, 1), api.OK}},
		{month(2024, 12), 1, periodAnswer{month(2025, 1), api.OK}},
		{month(2024, 1), -13, periodAnswer{month(2022, 12), api.OK}},
		{year(2024), 7, periodAnswer{year(2031), api.OK}},
		{month(1970, 1), 8030*12 - 1, periodAnswer{month(9999, 12), api.OK}},
		{month(1970, 1), 8030 * 12, periodAnswer{api.Period{}, api.ErrRange}},
		{month(1970, 1), -1, periodAnswer{api.Period{}, api.ErrRange}},
		{month(9999, 12), 1, periodAnswer{api.Period{}, api.ErrRange}},
		{month(9999, 12), 1 - 8030*12, periodAnswer{month(1970, 1), api.OK}},
		{quarter(9999, 4), 1, periodAnswer{api.Period{}, api.ErrRange}},
		{quarter(1970, 1), -1, periodAnswer{api.Period{}, api.ErrRange}},
		{year(9999), 1, periodAnswer{api.Period{}, api.ErrRange}},
		{year(1970), -1, periodAnswer{api.Period{}, api.ErrRange}},
		{year(1970), 8029, periodAnswer{year(9999), api.OK}},
		{year(2024), math.MaxInt, periodAnswer{api.Period{}, api.ErrRange}},
		{year(2024), math.MinInt, periodAnswer{api.Period{}, api.ErrRange}},
		{month(1970, 1), math.MinInt, periodAnswer{api.Period{}, api.ErrRange}},
		{month(9999, 12), math.MaxInt, periodAnswer{api.Period{}, api.ErrRange}},
		{month(9999, 12), math.MinInt, periodAnswer{api.Period{}, api.ErrRange}},
		{month(1970, 1), math.MaxInt, periodAnswer{api.Period{}, api.ErrRange}},
	} {
		check(t, toldPeriod(civil.Next(x.p, x.by)), x.want, x.p, x.by)
	}
	for _, p := range notGood {
		for _, by := range []int{0, 1, math.MaxInt, math.MinInt} {
			check(t, toldPeriod(civil.Next(p, by)), periodAnswer{api.Period{}, api.ErrArg}, p, by)
		}
	}
}

// P4.2
func TestNextIsAlongTheList(t *testing.T) {
	for _, kind := range kinds {
		l := periods(kind)
		for i, p := range l {
			for _, by := range []int{-len(l), -401, -13, -12, -4, -1, 0, 1, 2, 5, 12, 13, 400, len(l), -i, -i - 1, len(l) - 1 - i, len(l) - i} {
				want := periodAnswer{api.Period{}, api.ErrRange}
				if i+by >= 0 && i+by < len(l) {
					want = periodAnswer{l[i+by], api.OK}
				}
				check(t, toldPeriod(civil.Next(p, by)), want, p, by)
			}
		}
	}
}

// P4.3
func TestCmpTold(t *testing.T) {
	for _, x := range []struct {
		a, b api.Period
		want int
	}{
		{month(2024, 1), month(2024, 2), -1},
		{month(2023, 12), month(2024, 1), -1},
		{quarter(2024, 4), quarter(2025, 1), -1},
		{year(2024), year(2025), -1},
		// They begin at the same day: the shorter one is first.
		{month(2024, 1), quarter(2024, 1), -1},
		{month(2024, 1), year(2024), -1},
		{quarter(2024, 1), year(2024), -1},
		{month(2024, 4), quarter(2024, 2), -1},
		// What begins ahead is first, though it ends later, or at the same day.
		{year(2024), month(2024, 2), -1},
		{quarter(2024, 1), month(2024, 3), -1},
		{year(2024), month(2024, 12), -1},
		{year(2024), quarter(2024, 4), -1},
		{month(2024, 3), month(2024, 3), 0},
		{year(9999), year(9999), 0},
		{year(1970), month(9999, 12), -1},
	} {
		check(t, civil.Cmp(x.a, x.b), x.want, x.a, x.b)
		check(t, civil.Cmp(x.b, x.a), -x.want, x.b, x.a)
	}
}

// P4.3
func TestCmpOfSome(t *testing.T) {
	var l []api.Period
	for _, y := range []int{api.MinYear, 2023, 2024, 2025, api.MaxYear} {
		for _, kind := range kinds {
			for i := 1; i <= each(kind); i++ {
				l = append(l, api.Period{Kind: kind, Year: y, Index: i})
			}
		}
	}
	for _, a := range l {
		first, last := bounds(a)
		for _, b := range l {
			otherFirst, otherLast := bounds(b)
			want := cmp.Compare(first, otherFirst)
			if want == 0 {
				want = cmp.Compare(last, otherLast)
			}
			check(t, civil.Cmp(a, b), want, a, b)
		}
		for _, b := range notGood {
			check(t, civil.Cmp(a, b), 0, a, b)
			check(t, civil.Cmp(b, a), 0, b, a)
		}
	}
	for _, a := range notGood {
		for _, b := range notGood {
			check(t, civil.Cmp(a, b), 0, a, b)
		}
	}
}

// P4.3
func TestWithin(t *testing.T) {
	for _, kind := range kinds {
		for _, p := range periods(kind) {
			first, last := bounds(p)
			for _, n := range []int{first, last, (first + last) / 2} {
				check(t, civil.Within(p, n), true, p, n)
			}
			for _, n := range []int{first - 1, last + 1, -1, api.MaxDay + 1, math.MinInt, math.MaxInt} {
				check(t, civil.Within(p, n), false, p, n)
			}
		}
	}
	for _, p := range notGood {
		for _, n := range []int{0, 19782, -1, -365, api.MaxDay, api.MaxDay + 1} {
			check(t, civil.Within(p, n), false, p, n)
		}
	}
}

// P4.4: by what the layer itself tells
func TestBack(t *testing.T) {
	for _, kind := range kinds {
		for _, p := range periods(kind) {
			first, _ := civil.First(p)
			last, _ := civil.Last(p)
			check(t, toldPeriod(civil.Of(first, kind)), periodAnswer{p, api.OK}, first)
			check(t, toldPeriod(civil.Of(last, kind)), periodAnswer{p, api.OK}, last)
		}
	}
}

// P4.5: by what the layer itself tells
func TestChain(t *testing.T) {
	for _, kind := range kinds {
		p, e := civil.Of(0, kind)
		count := 0
		for e == api.OK {
			count++
			last, _ := civil.Last(p)
			next, behind := civil.Next(p, 1)
			if behind == api.OK {
				check(t, toldDay(civil.First(next)), dayAnswer{last + 1, api.OK}, p)
				check(t, civil.Cmp(p, next), -1, p)
			} else {
				check(t, toldDay(last, behind), dayAnswer{api.MaxDay, api.ErrRange}, p)
			}
			p, e = next, behind
		}
		check(t, count, 8030*each(kind), "periods of kind", kind)
	}
}
