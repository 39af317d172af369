package treat_test

import (
	"math"
	"slices"
	"testing"

	"octroi/api"
	"octroi/place"
	"octroi/treat"
)

var (
	zones      = []int{api.ZoneHome, api.ZoneUnion, api.ZoneThird}
	noZones    = []int{-1, 3, 4, math.MaxInt, math.MinInt, 256, 256 + 1, 1 << 32, -1 << 32}
	noSupplies = []int{0, -1, 8, 9, math.MaxInt, math.MinInt, 256 + 1, 1<<32 + 1, -1<<32 + 7}
	noTreats   = []int{0, -1, 16, 17, math.MaxInt, math.MinInt, 256 + 1, 1<<32 + 4, -1<<32 + 6}
	either     = []bool{false, true}
)

func check[T comparable](t *testing.T, got, want T, what ...any) {
	t.Helper()
	if got != want {
		t.Fatalf("%+v: %v, not %v", what, got, want)
	}
}

// eachCase goes over all cases that may be.
func eachCase(do func(c api.Case)) {
	var c api.Case
	for _, c.Sale = range either {
		for c.Supply = 1; c.Supply <= 7; c.Supply++ {
			for _, c.Exempt = range either {
				eachPlace(c, do)
			}
		}
	}
}

func eachPlace(c api.Case, do func(c api.Case)) {
	for _, c.From = range zones {
		for _, c.To = range zones {
			for _, c.Party = range zones {
				for _, c.Place = range zones {
					for _, c.Business = range either {
						for _, c.Over = range either {
							do(c)
						}
					}
				}
			}
		}
	}
}

// rule is a rule of the document: the first one that is of a case's kind, and holds of it, tells its treatment.
type rule struct {
	sale     bool
	supplies []int
	holds    func(c api.Case) bool
	treat    int
}

// otherwise holds of all cases.
func otherwise(api.Case) bool { return true }

// rules tells the document's rules, in its order.
func rules() []rule {
	goods, secondHand, service, electronic := []int{1}, []int{7}, []int{2}, []int{6}
	local, services := []int{3, 4, 5}, []int{2, 6}
	return []rule{
		{true, goods, func(c api.Case) bool { return c.From != 0 }, api.Abroad},
		{true, goods, func(c api.Case) bool { return c.To == 2 }, api.Export},
		{true, goods, func(c api.Case) bool { return c.To == 0 }, api.Home},
		{true, goods, func(c api.Case) bool { return c.To == 1 && c.Business }, api.Intra},
		{true, goods, func(c api.Case) bool { return c.To == 1 && c.Over }, api.Distance},
		{true, goods, func(c api.Case) bool { return c.To == 1 }, api.Below},
		{true, secondHand, func(c api.Case) bool { return c.From != 0 }, api.Abroad},
		{true, secondHand, func(c api.Case) bool { return c.To == 2 }, api.Export},
		{true, secondHand, otherwise, api.Margin},
		{true, service, func(c api.Case) bool { return c.Party == 2 }, api.Outside},
		{true, service, func(c api.Case) bool { return c.Party == 1 && c.Business }, api.Reverse},
		{true, service, otherwise, api.Home},
		{true, electronic, func(c api.Case) bool { return c.Party == 2 }, api.Outside},
		{true, electronic, func(c api.Case) bool { return c.Party == 0 }, api.Home},
		{true, electronic, func(c api.Case) bool { return c.Party == 1 && c.Business }, api.Reverse},
		{true, electronic, func(c api.Case) bool { return c.Party == 1 && c.Over }, api.Distance},
		{true, electronic, func(c api.Case) bool { return c.Party == 1 }, api.Below},
		{true, local, func(c api.Case) bool { return c.Place == 0 }, api.Home},
		{true, local, otherwise, api.Abroad},
		{false, goods, func(c api.Case) bool { return c.To != 0 }, api.Abroad},
		{false, goods, func(c api.Case) bool { return c.From == 2 }, api.Import},
		{false, goods, func(c api.Case) bool { return c.From == 0 }, api.Input},
		{false, goods, func(c api.Case) bool { return c.From == 1 && c.Business }, api.Acquisition},
		{false, goods, otherwise, api.Abroad},
		{false, secondHand, func(c api.Case) bool { return c.To != 0 }, api.Abroad},
		{false, secondHand, func(c api.Case) bool { return c.From == 2 }, api.Import},
		{false, secondHand, otherwise, api.Margin},
		{false, services, func(c api.Case) bool { return c.Party == 0 }, api.Input},
		{false, services, func(c api.Case) bool { return c.Business }, api.Received},
		{false, services, otherwise, api.Abroad},
		{false, local, func(c api.Case) bool { return c.Place != 0 }, api.Abroad},
		{false, local, func(c api.Case) bool { return c.Party == 0 }, api.Input},
		{false, local, func(c api.Case) bool { return c.Business }, api.Received},
		{false, local, otherwise, api.Abroad},
	}
}

// model is the treatment of a case that may be.
func model(l []rule, c api.Case) int {
	if c.Exempt {
		return api.Freed
	}
	for _, r := range l {
		if r.sale == c.Sale && slices.Contains(r.supplies, c.Supply) && r.holds(c) {
			return r.treat
		}
	}
	return 0
}

// checkOf holds a case that may be to have that treatment, and what hangs on it.
func checkOf(t *testing.T, c api.Case, want int) {
	t.Helper()
	check(t, treat.May(c), true, "may be", c)
	told, e := treat.Of(c)
	check(t, e, api.OK, "error of", c)
	check(t, treat.Name(told), treat.Name(want), "treatment of", c)
	check(t, told, want, "treatment of", c)
	check(t, treat.Counts(c), want == api.Distance || want == api.Below, "counts", c)
}

// checkMayNot holds a case to be one that may not be.
func checkMayNot(t *testing.T, c api.Case) {
	t.Helper()
	check(t, treat.May(c), false, "may be", c)
	told, e := treat.Of(c)
	check(t, e, api.ErrArg, "error of", c)
	check(t, told, 0, "treatment of", c)
	check(t, treat.Counts(c), false, "counts", c)
}

// P18.1, P18.2
func TestEachCase(t *testing.T) {
	l := rules()
	eachCase(func(c api.Case) { checkOf(t, c, model(l, c)) })
}

// P18.1
func TestSales(t *testing.T) {
	const union, third = api.ZoneUnion, api.ZoneThird
	for _, x := range []struct {
		c    api.Case
		want int
	}{
		{api.Case{Supply: api.Goods}, api.Home},
		{api.Case{Supply: api.Goods, Party: third, Business: true, Over: true}, api.Home},
		{api.Case{Supply: api.Goods, From: union}, api.Abroad},
		{api.Case{Supply: api.Goods, From: third, To: third}, api.Abroad},
		{api.Case{Supply: api.Goods, To: third, Business: true, Over: true}, api.Export},
		{api.Case{Supply: api.Goods, To: union, Business: true}, api.Intra},
		{api.Case{Supply: api.Goods, To: union, Business: true, Over: true}, api.Intra},
		{api.Case{Supply: api.Goods, To: union, Over: true}, api.Distance},
		{api.Case{Supply: api.Goods, To: union}, api.Below},
		{api.Case{Supply: api.SecondHand, From: union}, api.Abroad},
		{api.Case{Supply: api.SecondHand, To: third}, api.Export},
		{api.Case{Supply: api.SecondHand, To: union, Business: true, Over: true}, api.Margin},
		{api.Case{Supply: api.SecondHand}, api.Margin},
		{api.Case{Supply: api.Service, Party: third, Business: true}, api.Outside},
		{api.Case{Supply: api.Service, Party: union, Business: true}, api.Reverse},
		{api.Case{Supply: api.Service, Party: union, Over: true}, api.Home},
		{api.Case{Supply: api.Service, Business: true}, api.Home},
		{api.Case{Supply: api.Service, From: third, To: third, Place: third}, api.Home},
		{api.Case{Supply: api.Electronic, Party: third, Over: true}, api.Outside},
		{api.Case{Supply: api.Electronic, Business: true, Over: true}, api.Home},
		{api.Case{Supply: api.Electronic, Party: union, Business: true, Over: true}, api.Reverse},
		{api.Case{Supply: api.Electronic, Party: union, Over: true}, api.Distance},
		{api.Case{Supply: api.Electronic, Party: union}, api.Below},
		{api.Case{Supply: api.Property, Party: third}, api.Home},
		{api.Case{Supply: api.Event, Place: union, Party: union, Business: true}, api.Abroad},
		{api.Case{Supply: api.Transport, Place: third}, api.Abroad},
		{api.Case{Supply: api.Goods, Exempt: true, To: union, Business: true}, api.Freed},
		{api.Case{Supply: api.Transport, Exempt: true, Place: third}, api.Freed},
	} {
		x.c.Sale = true
		checkOf(t, x.c, x.want)
	}
}

// P18.1
func TestPurchases(t *testing.T) {
	const union, third = api.ZoneUnion, api.ZoneThird
	for _, x := range []struct {
		c    api.Case
		want int
	}{
		{api.Case{Supply: api.Goods}, api.Input},
		{api.Case{Supply: api.Goods, Party: third, Business: true}, api.Input},
		{api.Case{Supply: api.Goods, To: union, From: third}, api.Abroad},
		{api.Case{Supply: api.Goods, To: third}, api.Abroad},
		{api.Case{Supply: api.Goods, From: third, Business: true}, api.Import},
		{api.Case{Supply: api.Goods, From: third}, api.Import},
		{api.Case{Supply: api.Goods, From: union, Business: true}, api.Acquisition},
		{api.Case{Supply: api.Goods, From: union, Over: true}, api.Abroad},
		{api.Case{Supply: api.SecondHand, To: union}, api.Abroad},
		{api.Case{Supply: api.SecondHand, From: third}, api.Import},
		{api.Case{Supply: api.SecondHand, From: union, Business: true}, api.Margin},
		{api.Case{Supply: api.SecondHand}, api.Margin},
		{api.Case{Supply: api.Service}, api.Input},
		{api.Case{Supply: api.Service, Party: union, Business: true}, api.Received},
		{api.Case{Supply: api.Service, Party: third, Business: true}, api.Received},
		{api.Case{Supply: api.Service, Party: third, Over: true}, api.Abroad},
		{api.Case{Supply: api.Electronic, Business: true}, api.Input},
		{api.Case{Supply: api.Electronic, Party: union, Business: true}, api.Received},
		{api.Case{Supply: api.Electronic, Party: union, Over: true}, api.Abroad},
		{api.Case{Supply: api.Electronic, From: third, To: third, Place: third}, api.Input},
		{api.Case{Supply: api.Property, Place: union}, api.Abroad},
		{api.Case{Supply: api.Event, Place: third, Party: union, Business: true}, api.Abroad},
		{api.Case{Supply: api.Transport}, api.Input},
		{api.Case{Supply: api.Property, Party: union, Business: true}, api.Received},
		{api.Case{Supply: api.Event, Party: third}, api.Abroad},
		{api.Case{Supply: api.Goods, Exempt: true, From: third}, api.Freed},
		{api.Case{Supply: api.Service, Exempt: true, Party: union, Business: true}, api.Freed},
	} {
		checkOf(t, x.c, x.want)
	}
}

// P18.1
func TestCasesThatMayNotBe(t *testing.T) {
	eachCase(func(c api.Case) {
		for _, n := range noSupplies {
			other := c
			other.Supply = n
			checkMayNot(t, other)
		}
		for _, n := range noZones { // also where the treatment does not hang on that zone
			for _, set := range []func(c *api.Case){
				func(c *api.Case) { c.From = n },
				func(c *api.Case) { c.To = n },
				func(c *api.Case) { c.Party = n },
				func(c *api.Case) { c.Place = n },
			} {
				other := c
				set(&other)
				checkMayNot(t, other)
			}
		}
	})
	checkMayNot(t, api.Case{})
}

// P18.2
func TestNames(t *testing.T) {
	for want, numbers := range map[string][]int{
		"home": {1, api.Home}, "freed": {2, api.Freed}, "margin": {3, api.Margin}, "intra": {4, api.Intra}, "export": {5, api.Export},
		"reverse": {6, api.Reverse}, "outside": {7, api.Outside}, "distance": {8, api.Distance}, "below": {9, api.Below}, "abroad": {10, api.Abroad},
		"input": {11, api.Input}, "acquisition": {12, api.Acquisition}, "received": {13, api.Received}, "import": {14, api.Import}, "adjusted": {15, api.Adjusted},
		"": noTreats,
	} {
		for _, n := range numbers {
			check(t, treat.Name(n), want, n)
		}
	}
}

// P18.2
func TestWhatTreatmentsDo(t *testing.T) {
	output, deducts, listed := []int{1, 3, 9, 12, 13, 14}, []int{11, 12, 13, 14}, []int{4, 6}
	all := slices.Clone(noTreats)
	for n := -20; n <= 40; n++ {
		all = append(all, n)
	}
	for _, n := range all {
		check(t, treat.Output(n), slices.Contains(output, n), "output", n)
		check(t, treat.Deducts(n), slices.Contains(deducts, n), "deducts", n)
		check(t, treat.Listed(n), slices.Contains(listed, n), "listed", n)
	}
}

// P18.2
func TestCounts(t *testing.T) {
	eachCase(func(c api.Case) {
		distant := c.Supply == api.Goods && c.From == api.ZoneHome && c.To == api.ZoneUnion || c.Supply == api.Electronic && c.Party == api.ZoneUnion
		check(t, treat.Counts(c), c.Sale && !c.Exempt && !c.Business && distant, c)
	})
}

// P18.3
func TestJustOneHolds(t *testing.T) {
	held := map[int]int{}
	eachCase(func(c api.Case) {
		told, e := treat.Of(c)
		check(t, e, api.OK, c)
		for n, holds := range whole() {
			check(t, holds(c), n == told, "treatment", n, "of", c)
		}
		held[told]++
	})
	for n := api.Home; n <= api.Import; n++ {
		check(t, held[n] > 0, true, "some case of", n)
	}
	check(t, len(held), 14, "treatments")
}

// whole tells of each treatment when it holds, without a word of the others.
func whole() map[int]func(c api.Case) bool {
	of := func(l ...int) func(c api.Case) bool {
		return func(c api.Case) bool { return !c.Exempt && slices.Contains(l, c.Supply) }
	}
	goods, secondHand, service, electronic := of(1), of(7), of(2), of(6)
	moved, services, local := of(1, 7), of(2, 6), of(3, 4, 5)
	private := func(c api.Case) bool {
		return c.Sale && !c.Business && (goods(c) && c.From == 0 && c.To == 1 || electronic(c) && c.Party == 1)
	}
	at := func(c api.Case) bool { return services(c) || local(c) && c.Place == 0 }
	return map[int]func(c api.Case) bool{
		api.Home: func(c api.Case) bool {
			return c.Sale && (goods(c) && c.From == 0 && c.To == 0 || services(c) && c.Party == 0 || service(c) && c.Party == 1 && !c.Business || local(c) && c.Place == 0)
		},
		api.Freed: func(c api.Case) bool { return c.Exempt },
		api.Margin: func(c api.Case) bool {
			return secondHand(c) && (c.Sale && c.From == 0 && c.To != 2 || !c.Sale && c.To == 0 && c.From != 2)
		},
		api.Intra:    func(c api.Case) bool { return c.Sale && goods(c) && c.From == 0 && c.To == 1 && c.Business },
		api.Export:   func(c api.Case) bool { return c.Sale && moved(c) && c.From == 0 && c.To == 2 },
		api.Reverse:  func(c api.Case) bool { return c.Sale && services(c) && c.Party == 1 && c.Business },
		api.Outside:  func(c api.Case) bool { return c.Sale && services(c) && c.Party == 2 },
		api.Distance: func(c api.Case) bool { return private(c) && c.Over },
		api.Below:    func(c api.Case) bool { return private(c) && !c.Over },
		api.Abroad: func(c api.Case) bool {
			return moved(c) && (c.Sale && c.From != 0 || !c.Sale && c.To != 0) || local(c) && c.Place != 0 ||
				!c.Sale && !c.Business && (goods(c) && c.To == 0 && c.From == 1 || at(c) && c.Party != 0)
		},
		api.Input: func(c api.Case) bool {
			return !c.Sale && (goods(c) && c.To == 0 && c.From == 0 || at(c) && c.Party == 0)
		},
		api.Acquisition: func(c api.Case) bool { return !c.Sale && goods(c) && c.To == 0 && c.From == 1 && c.Business },
		api.Received:    func(c api.Case) bool { return !c.Sale && at(c) && c.Party != 0 && c.Business },
		api.Import:      func(c api.Case) bool { return !c.Sale && moved(c) && c.To == 0 && c.From == 2 },
	}
}

// P18.1
func TestExamples(t *testing.T) {
	checkOf(t, api.Case{Sale: true, Supply: api.Goods, To: api.ZoneUnion, Party: api.ZoneUnion, Over: true}, api.Distance)
	book := api.Line{Supply: api.Goods, Category: api.Standard, From: "DE", To: "FR", Amount: 1000}
	service := api.Line{Supply: api.Service, Category: api.Standard, Amount: 1000}
	for _, x := range []struct { // seen from DE
		sale           bool
		country        string
		l              api.Line
		business, over bool
		want           int
	}{
		{true, "DE", service, false, false, api.Home},
		{true, "FR", book, true, false, api.Intra},
		{true, "FR", book, false, false, api.Below},
		{true, "FR", book, false, true, api.Distance},
		{false, "FR", service, true, false, api.Received},
	} {
		c, e := place.Case("DE", api.Doc{Sale: x.sale, Country: x.country}, x.l)
		check(t, e, api.OK, x)
		c.Business, c.Over = x.business, x.over
		checkOf(t, c, x.want)
	}
}
