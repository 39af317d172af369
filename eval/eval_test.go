package eval_test

import (
	"fmt"
	"math"
	"math/big"
	"math/rand"
	"reflect"
	"slices"
	"strings"
	"testing"

	"octroi/api"
	"octroi/checker"
	"octroi/eval"
	"octroi/parser"
	"octroi/syntax"
)

var (
	fields   = strings.Fields("base tax out in")
	tags     = strings.Fields("treat rate supply sale late mixed")
	many     = map[int]int{api.ExPlus: 2, api.ExMinus: 2, api.ExLeast: 2, api.ExMost: 2, api.ExNeg: 1, api.ExClamp: 3} // of Kids
	numbers  = []int{0, 1, -1, 2, -7, 1000, -1900, 999999999999999999, -999999999999999999, 1 << 61, -1 << 61, 1<<62 - 1, 1 - 1<<62, 1 << 62, -1 << 62}
	noAmount = []int{1<<62 + 1, -1<<62 - 1, math.MaxInt, math.MinInt, math.MinInt + 1}
	january  = api.Period{Kind: api.Month, Year: 2022, Index: 1}
	february = api.Period{Kind: api.Month, Year: 2022, Index: 2}
)

func num(n int) api.Expr { return api.Expr{Kind: api.ExNum, N: n} }

func ref(n int) api.Expr { return api.Expr{Kind: api.ExRef, N: n} }

func of(kind int, kids ...api.Expr) api.Expr { return api.Expr{Kind: kind, Kids: kids} }

func filter(tag string, sign byte, n int) api.Filter { return api.Filter{Tag: tag, Sign: sign, N: n} }

func total(field string, f ...api.Filter) api.Expr {
	return api.Expr{Kind: api.ExTotal, Field: field, Filters: f}
}

// boxes tells what knows the boxes from 1 on, each with its amount.
func boxes(amounts ...int) func(n int) (int, bool) {
	return func(n int) (int, bool) {
		if n < 1 || n > len(amounts) {
			return math.MaxInt, false // not an amount either, but that is another error
		}
		return amounts[n-1], true
	}
}

// read tells the expression of a text.
func read(t *testing.T, s string) api.Expr {
	t.Helper()
	e, _, x := parser.Expr(s)
	if x != api.OK {
		t.Fatal(s, int(x))
	}
	return e
}

// plan tells the plan of a text.
func plan(t *testing.T, s string) *checker.Plan {
	t.Helper()
	l, _, e := parser.Parse(s)
	p, x := checker.Check(l)
	if e != api.OK || x != api.OK {
		t.Fatal(s, int(e), int(x))
	}
	return p
}

// The model: what the document says, word for word, in numbers without a bound.

func modelField(r api.Row, name string) (*big.Int, bool) {
	owed := 0
	if slices.Contains([]int{api.Home, api.Margin, api.Below}, r.Treat) && r.Sale || slices.Contains([]int{api.Acquisition, api.Received, api.Import}, r.Treat) {
		owed = r.Tax
	}
	n, is := map[string]int{"base": r.Base, "tax": r.Tax, "out": owed, "in": r.Deduct}[name]
	return big.NewInt(int64(n)), is
}

func modelTag(r api.Row, name string) (int, bool) {
	mark := map[bool]int{true: 1}
	n, is := map[string]int{"treat": r.Treat, "rate": r.Rate, "supply": r.Supply, "sale": mark[r.Sale], "late": mark[r.Period != r.Origin], "mixed": mark[r.Mixed]}[name]
	return n, is
}

func modelPicks(l []api.Filter, r api.Row) bool {
	for _, f := range l {
		tag, is := modelTag(r, f.Tag)
		if !is || f.Sign != '=' && f.Sign != '<' && f.Sign != '>' {
			return false
		}
		if f.Sign == '=' && tag != f.N || f.Sign == '<' && tag >= f.N || f.Sign == '>' && tag <= f.N {
			return false
		}
	}
	return true
}

func isAmount(n *big.Int) bool { return n.CmpAbs(new(big.Int).Lsh(big.NewInt(1), 62)) <= 0 }

// whole tells an amount, or that it is none, by an error.
func whole(n *big.Int, e api.Errno) (*big.Int, api.Errno) {
	if !isAmount(n) {
		return nil, e
	}
	return n, api.OK
}

func modelTotal(e api.Expr, rows []api.Row) (*big.Int, api.Errno) {
	if _, is := modelField(api.Row{}, e.Field); !is {
		return nil, api.ErrWord
	}
	for _, f := range e.Filters {
		if _, is := modelTag(api.Row{}, f.Tag); !is {
			return nil, api.ErrWord
		}
	}
	sum, proper := new(big.Int), true
	for _, r := range rows {
		if n, _ := modelField(r, e.Field); modelPicks(e.Filters, r) {
			sum.Add(sum, n)
			proper = proper && isAmount(n)
		}
	}
	if !proper {
		return nil, api.ErrArg
	}
	return whole(sum, api.ErrOver)
}

// modelPart tells what an expression that may be is.
func modelPart(e api.Expr, rows []api.Row, known func(n int) (int, bool)) (*big.Int, api.Errno) {
	var k []*big.Int
	for _, kid := range e.Kids {
		n, x := modelPart(kid, rows, known)
		if x != api.OK {
			return nil, x
		}
		k = append(k, n)
	}
	switch e.Kind {
	case api.ExNum:
		return big.NewInt(int64(e.N)), api.OK
	case api.ExRef:
		n, is := known(e.N)
		if !is {
			return nil, api.ErrBox
		}
		return whole(big.NewInt(int64(n)), api.ErrArg)
	case api.ExTotal:
		return modelTotal(e, rows)
	case api.ExPlus:
		return whole(new(big.Int).Add(k[0], k[1]), api.ErrOver)
	case api.ExMinus:
		return whole(new(big.Int).Sub(k[0], k[1]), api.ErrOver)
	case api.ExNeg:
		return new(big.Int).Neg(k[0]), api.OK
	case api.ExLeast:
		if k[1].Cmp(k[0]) < 0 {
			return k[1], api.OK
		}
	case api.ExMost:
		if k[1].Cmp(k[0]) > 0 {
			return k[1], api.OK
		}
	case api.ExClamp:
		if k[0].Cmp(k[1]) < 0 {
			return k[1], api.OK
		}
		if k[0].Cmp(k[2]) > 0 {
			return k[2], api.OK
		}
	}
	return k[0], api.OK
}

// like asks whether an expression is as its model.
func like(t *testing.T, e api.Expr, rows []api.Row, known func(n int) (int, bool)) (int, api.Errno) {
	t.Helper()
	got, x := eval.One(e, rows, known)
	want, fault := new(big.Int), api.ErrArg
	if syntax.GoodExpr(e) && known != nil {
		want, fault = modelPart(e, rows, known)
	}
	if fault != api.OK {
		want = new(big.Int)
	}
	if x != fault || want.Cmp(big.NewInt(int64(got))) != 0 {
		t.Fatal(got, int(x), want, int(fault), syntax.Text(e), e)
	}
	return got, x
}

// chanceRow tells a row; one of so many amounts is none.
func chanceRow(c *rand.Rand, often int) api.Row {
	number := func() int {
		switch {
		case c.Intn(often) == 0:
			return noAmount[c.Intn(len(noAmount))]
		case c.Intn(8) == 0:
			return numbers[c.Intn(len(numbers))]
		}
		return c.Intn(4001) - 2000
	}
	r := api.Row{Period: january, Origin: january, Doc: "d", Sale: c.Intn(2) == 0, Supply: 1 + c.Intn(7), Treat: 1 + c.Intn(15), Rate: []int{0, 700, 1900, 2000}[c.Intn(4)], Mixed: c.Intn(2) == 0, Base: number(), Tax: number(), Deduct: number()}
	if c.Intn(2) == 0 {
		r.Origin = february
	}
	return r
}

func chanceRows(c *rand.Rand, n, often int) []api.Row {
	rows := make([]api.Row, n)
	for i := range rows {
		rows[i] = chanceRow(c, often)
	}
	return rows
}

// chanceTotal tells a Total; one of so many has a name that is none.
func chanceTotal(c *rand.Rand, often int) api.Expr {
	e := total(fields[c.Intn(4)])
	for range c.Intn(3) {
		e.Filters = append(e.Filters, filter(tags[c.Intn(6)], "=<>"[c.Intn(3)], []int{0, 1, 2, 3, 8, 13, 700, 1900}[c.Intn(8)]))
	}
	if c.Intn(often) == 0 {
		e.Field = "x"
	}
	if len(e.Filters) > 0 && c.Intn(often) == 0 {
		e.Filters[c.Intn(len(e.Filters))].Tag = "x"
	}
	return e
}

// chance tells an expression that may be; one of so many boxes is none.
func chance(c *rand.Rand, deep, often int) api.Expr {
	if deep <= 1 || c.Intn(5) == 0 {
		switch c.Intn(4) {
		case 0:
			return num([]int{0, 1, 2, 1000, 1 << 58, 999999999999999999}[c.Intn(6)])
		case 1:
			if c.Intn(often) == 0 {
				return ref(99)
			}
			return ref(1 + c.Intn(len(numbers)))
		}
		return chanceTotal(c, often)
	}
	kind := api.ExPlus + c.Intn(6)
	kids := make([]api.Expr, many[kind])
	for i := range kids {
		kids[i] = chance(c, deep-1, often)
	}
	return of(kind, kids...)
}

// P34.1: the examples, and others, of each kind.
func TestExamples(t *testing.T) {
	rows := []api.Row{{Period: january, Origin: january, Sale: true, Supply: api.Goods, Treat: api.Home, Rate: 1900, Base: 1000, Tax: 190}}
	more := append(slices.Clone(rows),
		api.Row{Period: january, Origin: february, Sale: true, Supply: api.Service, Treat: api.Home, Rate: 700, Base: 200, Tax: 14},
		api.Row{Period: january, Origin: january, Supply: api.Service, Treat: api.Received, Rate: 1900, Base: 100, Tax: 19, Deduct: 19},
		api.Row{Period: january, Origin: january, Supply: api.Goods, Treat: api.Input, Rate: 700, Base: 400, Tax: 28, Deduct: 14, Mixed: true},
		api.Row{Period: january, Origin: january, Sale: true, Supply: api.Goods, Treat: api.Distance, Rate: 2000, Base: -50, Tax: -10})
	for s, want := range map[string][2]int{
		"sum(base, rate = 1900)":                  {1000, 1100},
		"sum(base)":                               {1000, 1650},
		"sum(tax)":                                {190, 241},
		"sum(out)":                                {190, 223},
		"sum(in)":                                 {0, 33},
		"sum(base, sale = 1)":                     {1000, 1150},
		"sum(base, sale < 1)":                     {0, 500},
		"sum(base, sale > 1)":                     {0, 0},
		"sum(base, late = 1)":                     {0, 200},
		"sum(base, mixed > 0)":                    {0, 400},
		"sum(base, treat = 8)":                    {0, -50},
		"sum(base, rate > 700)":                   {1000, 1050},
		"sum(base, rate < 1900, rate > 699)":      {0, 600},
		"sum(tax, supply = 2, sale = 0)":          {0, 19},
		"sum(out) - sum(in)":                      {190, 190},
		"clamp(5, 1, 3)":                          {3, 3},
		"clamp(0, 1, 3)":                          {1, 1},
		"clamp(2, 1, 3)":                          {2, 2},
		"clamp(2, 3, 1)":                          {3, 3},
		"clamp(3, 3, 1)":                          {1, 1},
		"clamp(0, 3, 1)":                          {3, 3},
		"clamp(4, 3, 1)":                          {1, 1},
		"min(1, 2) + min(2, 1) + min(-3, 0)":      {-1, -1},
		"max(1, 2) + max(2, 1) + max(-3, 0)":      {4, 4},
		"1 - 2 - 3":                               {-4, -4},
		"1 - (2 - 3)":                             {2, 2},
		"--7 - -box 1":                            {12, 12},
		"box 1 + box 2 - 1":                       {11, 11},
		"max(sum(base, rate = 1900) - box 2, 50)": {993, 1093},
	} {
		e := read(t, s)
		if a, x := like(t, e, rows, boxes(5, 7)); a != want[0] || x != api.OK {
			t.Error(s, a, int(x))
		}
		if a, x := like(t, e, more, boxes(5, 7)); a != want[1] || x != api.OK {
			t.Error(s, a, int(x))
		}
		if a, x := like(t, e, nil, boxes(5, 7)); strings.HasPrefix(s, "sum") && a != 0 || x != api.OK {
			t.Error(s, a, int(x))
		}
	}
}

// P34.1: each kind, of all edges of amounts in each place.
func TestKinds(t *testing.T) {
	over := 0
	for kind, n := range many {
		for i := range len(numbers) * len(numbers) * len(numbers) {
			a, b, c := numbers[i%len(numbers)], numbers[i/len(numbers)%len(numbers)], numbers[i/len(numbers)/len(numbers)]
			_, x := like(t, of(kind, []api.Expr{ref(1), ref(2), ref(3)}[:n]...), nil, boxes(a, b, c))
			if x == api.ErrOver {
				over++
			} else if x != api.OK {
				t.Fatal(kind, int(x))
			}
		}
	}
	if over == 0 {
		t.Error("nothing too great")
	}
	for s, want := range map[string][2]int{ // the amount, and the error
		"box 1 + box 1": {1 << 62, 0}, "box 1 + box 1 + 1": {0, 3}, "1 + box 1 + box 1": {0, 3}, "box 1 + box 1 - 1": {1<<62 - 1, 0},
		"-box 1 - box 1": {-1 << 62, 0}, "-box 1 - box 1 - 1": {0, 3}, "box 2 - box 2": {0, 0}, "-box 2": {-1 << 62, 0}, "--box 2": {1 << 62, 0}, "box 2 + box 2 - box 2": {0, 3}, "box 2 + (box 2 - box 2)": {1 << 62, 0},
		"min(box 2, -box 2)": {-1 << 62, 0}, "max(box 2, -box 2)": {1 << 62, 0}, "clamp(box 2, -box 2, box 1)": {1 << 61, 0},
	} {
		if a, x := like(t, read(t, s), nil, boxes(1<<61, 1<<62)); a != want[0] || int(x) != want[1] {
			t.Error(s, a, int(x))
		}
	}
}

// faulty tells rows whose Base is too great together, and of which one has a Tax that is none, and a Deduct that is too great together too.
func faulty() []api.Row {
	return []api.Row{
		{Period: january, Origin: january, Rate: 1, Base: api.MaxMoney, Tax: 5, Deduct: api.MaxMoney},
		{Period: january, Origin: january, Rate: 2, Base: 1, Tax: api.MaxMoney + 1, Deduct: api.MaxMoney + 1},
		{Period: january, Origin: january, Rate: 3, Base: -1, Tax: 7, Deduct: 1},
	}
}

// P34.1: of its parts' errors the one that is met first from the left, each Kid's ahead of that of what is made of it.
func TestErrorsInOrder(t *testing.T) {
	known := boxes(7, api.MaxMoney, api.MaxMoney+1, math.MinInt)
	leaves := []api.Expr{num(1), ref(1), ref(2), ref(9), ref(3), ref(4), total("x"), total("tax"), total("base", filter("rate", '<', 3)), total("base")}
	faults := []api.Errno{0, 0, 0, api.ErrBox, api.ErrArg, api.ErrArg, api.ErrWord, api.ErrArg, api.ErrOver, 0}
	pairs := slices.Clone(leaves)
	for i, a := range leaves {
		if _, x := like(t, a, faulty(), known); x != faults[i] {
			t.Error(a, int(x))
		}
		pairs = append(pairs, of(api.ExNeg, a))
		for j, b := range leaves {
			e := of(api.ExPlus, a, b)
			want := faults[i]
			if want == api.OK {
				want = faults[j]
			}
			if want == api.OK && i == 2 && j < 9 || want == api.OK && i < 9 && j == 2 {
				want = api.ErrOver
			}
			if _, x := like(t, e, faulty(), known); x != want && i < 9 && j < 9 {
				t.Error(syntax.Text(e), int(x), int(want))
			}
			pairs = append(pairs, e)
		}
	}
	told := map[api.Errno]int{}
	for kind, n := range many {
		for _, a := range pairs {
			for _, b := range pairs {
				kids := []api.Expr{a, b, ref(3)}[:n]
				_, x := like(t, of(kind, kids...), faulty(), known)
				told[x]++
				if n == 3 {
					like(t, of(kind, num(1), a, b), faulty(), known)
				}
			}
		}
	}
	if len(told) != 5 {
		t.Error(told)
	}
}

// P34.1: the errors of one part.
func TestErrorsOfAPart(t *testing.T) {
	for i, x := range []struct {
		e     api.Expr
		fault api.Errno
	}{
		{total("x", filter("rate", '=', 2)), api.ErrWord},
		{total("in", filter("x", '=', 2)), api.ErrWord},
		{total("in", filter("rate", '=', 2), filter("x", '=', 2)), api.ErrWord},
		{total("in", filter("rate", '=', 9), filter("x", '=', 2)), api.ErrWord},
		{total("in"), api.ErrArg},
		{total("in", filter("rate", '>', 1)), api.ErrArg},
		{total("in", filter("rate", '=', 2)), api.ErrArg},
		{total("in", filter("rate", '<', 2)), api.OK},
		{total("in", filter("rate", '>', 2)), api.OK},
		{total("base", filter("rate", '<', 3)), api.ErrOver},
		{total("base"), api.OK},
		{total("tax", filter("rate", '<', 2)), api.OK},
		{total("tax"), api.ErrArg},
		{total("out"), api.OK},
		{of(api.ExPlus, ref(99), total("x")), api.ErrBox},
		{of(api.ExPlus, total("x"), ref(99)), api.ErrWord},
		{of(api.ExPlus, of(api.ExPlus, ref(2), ref(2)), ref(99)), api.ErrOver},
		{of(api.ExPlus, ref(2), of(api.ExPlus, ref(2), ref(99))), api.ErrBox},
		{of(api.ExClamp, num(1), num(0), ref(99)), api.ErrBox},
		{of(api.ExClamp, num(1), num(2), ref(99)), api.ErrBox},
		{of(api.ExLeast, num(1), total("tax")), api.ErrArg},
		{of(api.ExPlus, ref(0), total("x")), api.ErrArg}, // it may not be
		{of(api.ExPlus, ref(99), total("box")), api.ErrArg},
		{of(api.ExPlus, ref(99), num(-1)), api.ErrArg},
	} {
		if _, e := like(t, x.e, faulty(), boxes(1, api.MaxMoney)); e != x.fault {
			t.Error(i, int(e), int(x.fault))
		}
	}
	for _, n := range noAmount {
		if a, e := eval.One(ref(1), nil, boxes(n)); e != api.ErrArg || a != 0 {
			t.Error(n, a, int(e))
		}
		for _, is := range []bool{true, false} {
			a, e := eval.One(ref(1), nil, func(int) (int, bool) { return n, is })
			if want := map[bool]api.Errno{true: api.ErrArg, false: api.ErrBox}[is]; e != want || a != 0 {
				t.Error(n, is, a, int(e))
			}
		}
	}
	for _, n := range numbers {
		if a, e := eval.One(ref(1), nil, boxes(n)); e != api.OK || a != n {
			t.Error(n, a, int(e))
		}
	}
}

// P34.1: what may not be, with what is not known.
func TestMayNotBe(t *testing.T) {
	deep := num(1)
	for range 63 {
		deep = of(api.ExNeg, deep)
	}
	if a, x := like(t, deep, nil, boxes()); a != -1 || x != api.OK {
		t.Error(a, int(x))
	}
	seventeen := total("base")
	for range 17 {
		seventeen.Filters = append(seventeen.Filters, filter("rate", '>', 0))
	}
	ring := []api.Expr{num(1), num(1)}
	ring[0], ring[1] = of(api.ExPlus, ring...), of(api.ExPlus, ring...)
	far := deep
	for range 1 << 16 {
		far = of(api.ExNeg, far)
	}
	for i, e := range []api.Expr{{}, {Kind: 10, N: 1}, {Kind: -1}, num(-1), num(1000000000000000000), num(math.MinInt), ref(0), ref(10000), total(""), total("Base"), total("sum"), seventeen, total("base", filter("rate", '!', 1)), total("base", filter("rate", '=', -1)), total("base", filter("", '=', 1)), of(api.ExPlus, num(1)), of(api.ExPlus), of(api.ExNeg), of(api.ExClamp, num(1), num(1)), of(api.ExLeast, num(1), num(1), num(1)), of(api.ExNum, num(1)), of(api.ExNeg, deep), far, ring[0]} {
		for _, known := range []func(int) (int, bool){nil, boxes(), boxes(1)} {
			if a, x := eval.One(e, faulty(), known); a != 0 || x != api.ErrArg {
				t.Error(i, a, int(x))
			}
		}
	}
	for i, e := range []api.Expr{num(1), ref(1), total("base"), total("x"), total("tax"), ref(99)} {
		if a, x := eval.One(e, faulty(), nil); a != 0 || x != api.ErrArg {
			t.Error("nothing known", i, a, int(x))
		}
	}
	if a, x := eval.One(total("tax", slices.Repeat([]api.Filter{filter("rate", '=', 1)}, 16)...), faulty(), boxes()); a != 5 || x != api.OK {
		t.Error(a, int(x))
	}
}

// Rule 1: no call panics: of a box that is asked for in vain nothing is known.
func TestKnownPanics(t *testing.T) {
	for _, raised := range []any{"no", nil, api.OK} {
		panics := func(n int) (int, bool) {
			if n > 1 {
				panic(raised)
			}
			return 4, true
		}
		for s, want := range map[string][2]int{"box 1": {4, 0}, "box 2": {0, 83}, "box 1 + box 2": {0, 83}, "sum(x) + box 2": {0, 80}} {
			if a, x := eval.One(read(t, s), nil, panics); a != want[0] || int(x) != want[1] {
				t.Error(s, a, int(x))
			}
		}
	}
}

// Rule 1: trees that are great, made of few lists.
func TestGreat(t *testing.T) {
	for kind, n := range many {
		e := ref(1)
		for deep := range 63 {
			e = of(kind, slices.Repeat([]api.Expr{e}, n)...)
			if deep < 7 {
				like(t, e, nil, boxes(3))
			}
			if a, x := eval.One(e, nil, boxes(0)); a != 0 || x != api.OK {
				t.Error(kind, deep, a, int(x))
			}
			if a, x := eval.One(e, nil, boxes(3)); kind > api.ExNeg && (a != 3 || x != api.OK) {
				t.Error(kind, deep, a, int(x))
			}
			if a, x := eval.One(e, nil, boxes()); a != 0 || x != api.ErrBox {
				t.Error(kind, deep, a, int(x))
			}
		}
	}
	e := num(1)
	for deep := range 63 {
		e = of(api.ExPlus, e, e)
		if a, x := eval.One(e, nil, boxes()); deep < 62 && (a != 2<<deep || x != api.OK) || deep == 62 && x != api.ErrOver {
			t.Error(deep, a, int(x))
		}
	}
}

// P34.1: expressions by chance, over rows by chance.
func TestByChance(t *testing.T) {
	c, told := rand.New(rand.NewSource(34)), map[api.Errno]int{}
	for range 20000 {
		often := []int{20, 60, 1000}[c.Intn(3)]
		e := chance(c, 1+c.Intn(6), often)
		_, x := like(t, e, chanceRows(c, c.Intn(12), often), boxes(numbers...))
		told[x]++
	}
	for _, x := range []api.Errno{api.OK, api.ErrBox, api.ErrWord, api.ErrArg, api.ErrOver} {
		if told[x] < 300 {
			t.Error(told)
		}
	}
}

// P34.1: Picks: each Tag, by each Sign, below, at and above what the row has.
func TestPicks(t *testing.T) {
	c := rand.New(rand.NewSource(35))
	odd := api.Row{Supply: math.MaxInt, Rate: math.MinInt, Treat: -5}
	for _, r := range append(chanceRows(c, 50, 5), api.Row{}, odd) {
		for _, tag := range append([]string{"", "base", "Rate", "rate ", "x", "tax"}, tags...) {
			at, is := modelTag(r, tag)
			for _, n := range []int{at, at - 1, at + 1, 0, 1, -1, math.MinInt, math.MaxInt} {
				for sign := range 256 {
					f := filter(tag, byte(sign), n)
					want := is && (sign == '=' && at == n || sign == '<' && at < n || sign == '>' && at > n)
					if eval.Picks([]api.Filter{f}, r) != want || modelPicks([]api.Filter{f}, r) != want {
						t.Fatal(tag, sign, n, r)
					}
				}
			}
		}
	}
}

// P34.1: Picks: all filters, in whatever order, and what is none among them.
func TestPicksAll(t *testing.T) {
	r := api.Row{Period: january, Origin: february, Sale: true, Supply: 2, Treat: api.Home, Rate: 1900}
	good := []api.Filter{filter("rate", '=', 1900), filter("late", '>', 0), filter("mixed", '<', 1), filter("supply", '>', 1), filter("rate", '<', 1901)}
	if !eval.Picks(nil, r) || !eval.Picks([]api.Filter{}, r) || !eval.Picks(nil, api.Row{}) || !eval.Picks(good, r) || !eval.Picks(slices.Repeat(good, 20), r) {
		t.Error("all of them")
	}
	for _, bad := range []api.Filter{{}, filter("rate", '=', 700), filter("x", '=', 0), filter("x", '<', 1), filter("sale", '!', 1), filter("sale", 0, 1), filter("late", '<', 1)} {
		for at := range len(good) + 1 {
			if eval.Picks(slices.Insert(slices.Clone(good), at, bad), r) {
				t.Error(bad, at)
			}
		}
	}
	c := rand.New(rand.NewSource(36))
	for range 20000 {
		e, r := chanceTotal(c, 20), chanceRow(c, 20)
		if eval.Picks(e.Filters, r) != modelPicks(e.Filters, r) {
			t.Fatal(e, r)
		}
	}
}

// modelRun tells what all boxes are, or the error of the first one in the order that has one.
func modelRun(l []api.Box, order []int, rows []api.Row) ([]eval.Value, api.Errno) {
	values := make([]eval.Value, len(l))
	known := func(n int) (int, bool) {
		i := slices.IndexFunc(values, func(v eval.Value) bool { return v.N == n })
		return values[i].Amount, true
	}
	for _, i := range order {
		n, x := modelPart(l[i].E, rows, known)
		if x != api.OK {
			return nil, x
		}
		values[i] = eval.Value{N: l[i].N, Amount: int(n.Int64())}
	}
	return values, api.OK
}

// P34.2: programs: values in the order of places, and the first error in the plan's.
func TestRun(t *testing.T) {
	rows := faulty()
	for s, want := range map[string]string{
		"":                                  "[] 0",
		"box 1 = box 2; box 2 = 5;":         "[{1 5} {2 5}] 0",
		"box 9 = 1; box 4 = box 9 + box 9;": "[{9 1} {4 2}] 0",
		"box 3 = sum(base, rate > 1) - box 1; box 2 = clamp(box 3, 0, 9); box 1 = 4;": "[{3 -4} {2 0} {1 4}] 0",
		"box 1 = sum(tax); box 2 = sum(base, rate < 3);":                              "[] 2",
		"box 1 = sum(base, rate < 3); box 2 = sum(tax);":                              "[] 3",
		"box 1 = box 2 + sum(tax); box 2 = sum(base, rate < 3);":                      "[] 3",
		"box 1 = box 2 + sum(tax); box 2 = 1; box 3 = sum(base, rate < 3);":           "[] 2",
		"box 1 = box 3 + sum(tax); box 2 = sum(base, rate < 3); box 3 = 1;":           "[] 3",
		"box 1 = sum(base, rate = 1); box 2 = box 1 + box 3; box 3 = 1;":              "[] 3",
		"box 1 = sum(base, rate = 1); box 2 = box 1 - box 3; box 3 = 1;":              "[{1 4611686018427387904} {2 4611686018427387903} {3 1}] 0",
		"box 1 = -sum(base, rate = 1); box 2 = 0 - box 1; box 3 = min(box 1, 1);":     "[{1 -4611686018427387904} {2 4611686018427387904} {3 -4611686018427387904}] 0",
	} {
		values, x := eval.Run(plan(t, s), rows)
		if got := fmt.Sprint(values, " ", int(x)); got != want {
			t.Error(s, got)
		}
	}
}

// P34.2: no plan; one that no call made has no boxes.
func TestRunOfNothing(t *testing.T) {
	for _, rows := range [][]api.Row{nil, {}, faulty()} {
		if values, x := eval.Run(nil, rows); len(values) != 0 || x != api.ErrNil {
			t.Error(values, int(x))
		}
		if values, x := eval.Run(&checker.Plan{}, rows); len(values) != 0 || x != api.OK {
			t.Error(values, int(x))
		}
	}
}

// chanceProgram tells the boxes of a plan.
func chanceProgram(c *rand.Rand, often int) ([]api.Box, *checker.Plan) {
	l := make([]api.Box, c.Intn(9))
	for i, n := range c.Perm(len(l)) {
		l[i].N = n + 1
	}
	for {
		for i := range l {
			l[i].E = chance(c, 1+c.Intn(4), often)
		}
		var cut func(e api.Expr) api.Expr
		cut = func(e api.Expr) api.Expr {
			if e.Kind == api.ExRef && (e.N > len(l) || c.Intn(3) > 0) {
				return num(e.N)
			}
			e.Kids = slices.Clone(e.Kids)
			for i, k := range e.Kids {
				e.Kids[i] = cut(k)
			}
			return e
		}
		for i := range l {
			l[i].E = cut(l[i].E)
		}
		if p, x := checker.Check(l); x == api.OK {
			return l, p
		}
	}
}

// P34.2: by chance.
func TestRunByChance(t *testing.T) {
	c, told, moved := rand.New(rand.NewSource(37)), map[api.Errno]int{}, 0
	for range 5000 {
		often := []int{20, 60, 1000}[c.Intn(3)]
		l, p := chanceProgram(c, often)
		rows := chanceRows(c, c.Intn(12), often)
		values, x := eval.Run(p, rows)
		want, fault := modelRun(l, p.Order(), rows)
		if x != fault || !slices.Equal(values, want) {
			t.Fatal(values, int(x), want, int(fault), syntax.Print(l))
		}
		told[x]++
		if !slices.IsSorted(p.Order()) {
			moved++
		}
	}
	if told[api.OK] < 1000 || told[api.ErrArg] < 100 || told[api.ErrOver] < 20 || moved < 100 {
		t.Error(told, moved)
	}
}

// P34.2: as many boxes as may be, each of which needs the next one; and as many rows as may be.
func TestRunGreat(t *testing.T) {
	var s strings.Builder
	for i := range 255 {
		fmt.Fprintf(&s, "box %d = box %d + 1;", i+1, i+2)
	}
	p := plan(t, s.String()+"box 256 = sum(base, sale = 1);")
	rows := make([]api.Row, api.MaxRows)
	for i := range rows {
		rows[i] = api.Row{Sale: i%2 == 0, Base: i}
	}
	values, x := eval.Run(p, rows)
	if x != api.OK || len(values) != 256 {
		t.Fatal(len(values), int(x))
	}
	half := api.MaxRows / 2
	for i, v := range values {
		if v != (eval.Value{N: i + 1, Amount: half*(half-1) + 255 - i}) {
			t.Fatal(i, v)
		}
	}
}

// P34.3: each value's line.
func TestLines(t *testing.T) {
	for want, l := range map[string][]eval.Value{
		"":             nil,
		"1 5\n":        {{N: 1, Amount: 5}},
		"9999 -16\n":   {{N: 9999, Amount: -16}},
		"2 0\n1 -1\n":  {{N: 2}, {N: 1, Amount: -1}},
		"1 1\n1 1\n":   {{N: 1, Amount: 1}, {N: 1, Amount: 1}},
		"0 0\n-7 10\n": {{}, {N: -7, Amount: 10}},
		"-9223372036854775808 9223372036854775807\n9223372036854775807 -9223372036854775808\n": {{N: math.MinInt, Amount: math.MaxInt}, {N: math.MaxInt, Amount: math.MinInt}},
		"1 4611686018427387904\n2 -4611686018427387904\n":                                      {{N: 1, Amount: api.MaxMoney}, {N: 2, Amount: -api.MaxMoney}},
	} {
		if got := eval.Lines(l); got != want {
			t.Errorf("%q, not %q", got, want)
		}
	}
	c := rand.New(rand.NewSource(38))
	for range 200 {
		var l []eval.Value
		want := ""
		for range c.Intn(300) {
			v := eval.Value{N: int(c.Uint64() >> c.Intn(64)), Amount: int(c.Uint64() >> c.Intn(64))}
			l, want = append(l, v), want+fmt.Sprintf("%d %d\n", v.N, v.Amount)
		}
		if got := eval.Lines(l); got != want {
			t.Fatalf("%q, not %q", got, want)
		}
	}
}

// P34.4: in which order rows come is nothing.
func TestAnyOrder(t *testing.T) {
	c, told := rand.New(rand.NewSource(39)), map[api.Errno]int{}
	for range 3000 {
		often := []int{3, 20, 1000}[c.Intn(3)]
		_, p := chanceProgram(c, 1000)
		rows := chanceRows(c, c.Intn(12), often)
		e := chanceTotal(c, 10)
		values, x := eval.Run(p, rows)
		n, y := eval.One(e, rows, boxes())
		told[y]++
		for range 5 {
			c.Shuffle(len(rows), func(i, j int) { rows[i], rows[j] = rows[j], rows[i] })
			others, x2 := eval.Run(p, rows)
			if m, y2 := eval.One(e, rows, boxes()); x2 != x || y2 != y || m != n || !slices.Equal(others, values) {
				t.Fatal(values, int(x), others, int(x2), n, int(y), m, int(y2))
			}
		}
	}
	if told[api.OK] < 500 || told[api.ErrArg] < 100 || told[api.ErrOver] < 20 {
		t.Error(told)
	}
}

// P34.5: a Total of two lists of rows, one behind the other, is the sum of both.
func TestParts(t *testing.T) {
	c, some := rand.New(rand.NewSource(40)), 0
	for range 3000 {
		rows, e := chanceRows(c, c.Intn(30), 1000), chanceTotal(c, 1000)
		at := c.Intn(len(rows) + 1)
		both, x := eval.One(e, rows, boxes())
		first, y := eval.One(e, rows[:at], boxes())
		second, z := eval.One(e, rows[at:], boxes())
		if y != api.OK || z != api.OK {
			continue
		}
		sum := new(big.Int).Add(big.NewInt(int64(first)), big.NewInt(int64(second)))
		if isAmount(sum) != (x == api.OK) || x == api.OK && both != first+second || x != api.OK && x != api.ErrOver {
			t.Fatal(both, int(x), first, second)
		}
		if first != 0 && second != 0 {
			some++
		}
	}
	if some < 500 {
		t.Error(some)
	}
}

// Rules 4 and 8: what is handed in is left as it is, and what stands behind a list's length says nothing.
func TestSpareRoom(t *testing.T) {
	bad := api.Row{Rate: 1, Base: math.MaxInt, Sale: true}
	rows := []api.Row{{Rate: 1, Base: 5}, {Rate: 2, Base: 7}, bad}
	filters := []api.Filter{filter("rate", '<', 2), filter("x", '?', 0)}
	kids := []api.Expr{total("base", filters...), num(2), total("x")}
	kids[0].Filters = filters[:1]
	e := of(api.ExPlus, kids...)
	e.Kids = kids[:2]
	was := fmt.Sprint(rows, filters, kids)
	if a, x := like(t, e, rows[:2], boxes()); a != 7 || x != api.OK || !eval.Picks(filters[:1], rows[0]) {
		t.Error(a, int(x))
	}
	p, _ := checker.Check([]api.Box{{N: 1, E: e}})
	values, x := eval.Run(p, rows[:2])
	if x != api.OK || !reflect.DeepEqual(values, []eval.Value{{N: 1, Amount: 7}}) {
		t.Error(values, int(x))
	}
	if text := eval.Lines(append(values, eval.Value{N: 9})[:1]); text != "1 7\n" {
		t.Error(text)
	}
	values[0].Amount = 0
	if again, _ := eval.Run(p, rows[:2]); again[0].Amount != 7 || fmt.Sprint(rows, filters, kids) != was {
		t.Error("changed")
	}
}
