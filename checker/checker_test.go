package checker_test

import (
	"fmt"
	"math"
	"math/rand"
	"reflect"
	"slices"
	"strings"
	"testing"

	"octroi/api"
	"octroi/checker"
	"octroi/parser"
	"octroi/syntax"
)

var (
	fields  = strings.Fields("base tax out in")
	tags    = strings.Fields("treat rate supply sale late mixed")
	many    = map[int]int{api.ExPlus: 2, api.ExMinus: 2, api.ExLeast: 2, api.ExMost: 2, api.ExNeg: 1, api.ExClamp: 3} // of Kids
	nowhere = []int{-1, math.MinInt, math.MaxInt, 1 << 32, 1 << 8}
)

func num(n int) api.Expr { return api.Expr{Kind: api.ExNum, N: n} }

func ref(n int) api.Expr { return api.Expr{Kind: api.ExRef, N: n} }

func of(kind int, kids ...api.Expr) api.Expr { return api.Expr{Kind: kind, Kids: kids} }

func total(field string, tags ...string) api.Expr {
	e := api.Expr{Kind: api.ExTotal, Field: field}
	for _, tag := range tags {
		e.Filters = append(e.Filters, api.Filter{Tag: tag, Sign: '=', N: 1})
	}
	return e
}

// needing tells an expression that names boxes.
func needing(boxes ...int) api.Expr {
	e := num(0)
	for _, n := range boxes {
		e = of(api.ExPlus, ref(n), e)
	}
	return e
}

// read tells the program of a text.
func read(t *testing.T, s string) []api.Box {
	t.Helper()
	l, _, e := parser.Parse(s)
	if e != api.OK {
		t.Fatal(s, int(e))
	}
	return l
}

// model is a program's plan, or what is wrong with it, word for word.
type model struct {
	boxes []api.Box
	needs [][]int
	order []int
	fault api.Errno
}

// parts tells an expression, and all that is in it.
func parts(e api.Expr) []api.Expr {
	l := []api.Expr{e}
	for _, k := range e.Kids {
		l = append(l, parts(k)...)
	}
	return l
}

func named(e api.Expr) bool {
	for _, x := range parts(e) {
		if x.Kind != api.ExTotal {
			continue
		}
		if !slices.Contains(fields, x.Field) {
			return false
		}
		for _, f := range x.Filters {
			if !slices.Contains(tags, f.Tag) {
				return false
			}
		}
	}
	return true
}

// find tells the places of the boxes that have a number.
func find(l []api.Box, n int) []int {
	var at []int
	for i, b := range l {
		if b.N == n {
			at = append(at, i)
		}
	}
	return at
}

// needed tells for each two boxes whether the one's expression names the other; and whether each number named is a box's.
func needed(l []api.Box) (needs [][]bool, all bool) {
	all = true
	for _, b := range l {
		row := make([]bool, len(l))
		for _, x := range parts(b.E) {
			if x.Kind == api.ExRef {
				all = all && len(find(l, x.N)) > 0
				for _, i := range find(l, x.N) {
					row[i] = true
				}
			}
		}
		needs = append(needs, row)
	}
	return needs, all
}

// circle tells whether a box needs itself, through others or not.
func circle(needs [][]bool) bool {
	reach := make([][]bool, len(needs))
	for i := range needs {
		reach[i] = slices.Clone(needs[i])
	}
	for k := range reach {
		for i := range reach {
			for j := range reach {
				reach[i][j] = reach[i][j] || reach[i][k] && reach[k][j]
			}
		}
	}
	for i := range reach {
		if reach[i][i] {
			return true
		}
	}
	return false
}

func modelOf(l []api.Box) model {
	twice := false
	for _, b := range l {
		twice = twice || len(find(l, b.N)) > 1
	}
	needs, all := [][]bool(nil), false
	names := true
	if syntax.Good(l) {
		needs, all = needed(l)
		for _, b := range l {
			names = names && named(b.E)
		}
	}
	switch {
	case !syntax.Good(l):
		return model{fault: api.ErrArg}
	case twice:
		return model{fault: api.ErrTwice}
	case !all:
		return model{fault: api.ErrBox}
	case !names:
		return model{fault: api.ErrWord}
	case circle(needs):
		return model{fault: api.ErrCycle}
	}
	m := model{boxes: l, needs: make([][]int, len(l))}
	for i := range l {
		for j := range l {
			if needs[i][j] {
				m.needs[i] = append(m.needs[i], j)
			}
		}
	}
	for len(m.order) < len(l) {
		m.order = append(m.order, lowest(m))
	}
	return m
}

// lowest tells the lowest place that is not in the order yet, and of which all that it needs is.
func lowest(m model) int {
	is := func(i int) bool { return slices.Contains(m.order, i) }
	for i := range m.boxes {
		can := !is(i)
		for _, j := range m.needs[i] {
			can = can && is(j)
		}
		if can {
			return i
		}
	}
	panic("no place")
}

// like asks whether all that is told of a program is as its model.
func like(t *testing.T, l []api.Box) (*checker.Plan, api.Errno) {
	t.Helper()
	m := modelOf(l)
	p, e := checker.Check(l)
	if e != m.fault || (p != nil) != (e == api.OK) {
		t.Fatal(int(e), p, int(m.fault), syntax.Print(l))
	}
	if p.Len() != len(m.boxes) || !slices.Equal(p.Order(), m.order) {
		t.Fatal(p.Len(), p.Order(), m.order, syntax.Print(l))
	}
	for i, b := range m.boxes {
		got, is := p.Box(i)
		at, has := p.Find(b.N)
		if !is || !syntax.Same([]api.Box{got}, []api.Box{b}) || !has || at != i || !slices.Equal(p.Needs(i), m.needs[i]) {
			t.Fatal(i, got, at, has, p.Needs(i), m.needs[i], syntax.Print(l))
		}
	}
	for _, i := range append([]int{len(m.boxes), len(m.boxes) + 1}, nowhere...) {
		b, is := p.Box(i)
		if is || !reflect.DeepEqual(b, api.Box{}) || len(p.Needs(i)) > 0 {
			t.Fatal("outside", i, b, p.Needs(i))
		}
	}
	for _, n := range append([]int{0, 77, 9998, 10000}, nowhere...) {
		if at, is := p.Find(n); len(find(m.boxes, n)) == 0 && (is || at != 0) {
			t.Fatal("no box", n, at)
		}
	}
	return p, e
}

// P33.1, P33.2: the examples, and other programs.
func TestExamples(t *testing.T) {
	for s, want := range map[string]string{
		"":                                 "[]",
		"box 1 = box 2; box 2 = 5;":        "[1 0]",
		"box 1 = box 1;":                   "84",
		"box 9 = 1; box 4 = 2; box 7 = 3;": "[0 1 2]",
		"box 1 = box 2; box 2 = box 3; box 3 = 1;":                "[2 1 0]",
		"box 1 = box 3; box 2 = 0; box 3 = 1;":                    "[1 2 0]",
		"box 1 = box 4; box 2 = box 3; box 3 = 1; box 4 = box 3;": "[2 1 3 0]",
		"box 1 = box 2; box 2 = box 1;":                           "84",
		"box 1 = box 2; box 2 = box 3; box 3 = 1 - -box 1;":       "84",
		"box 1 = 1; box 2 = box 3; box 3 = box 2; box 4 = 1;":     "84",
		"box 1 = box 2; box 2 = box 2 + box 3; box 3 = 1;":        "84",
		"box 1 = sum(base, rate = 1900); box 2 = box 1 - box 3;":  "83",
		"box 1 = box 9999;":                                       "83",
		"box 1 = 1; box 1 = 1;":                                   "51",
		"box 1 = sum(gross);":                                     "80",
		"box 1 = sum(base, state = 1);":                           "80",
		"box 1 = sum(out, late = 1, mixed < 1); box 2 = min(box 1, sum(in, supply > 2, sale = 0, treat = 14));": "[0 1]",
	} {
		p, e := like(t, read(t, s))
		if got := fmt.Sprint(p.Order()); e == api.OK && got != want || e != api.OK && fmt.Sprint(int(e)) != want {
			t.Error(s, int(e), got)
		}
	}
}

// P33.1: of all sets of errors the first one is told, wherever it stands.
func TestErrorsInOrder(t *testing.T) {
	faults := []struct {
		boxes []api.Box
		e     api.Errno
	}{
		{[]api.Box{{N: 50, E: of(api.ExPlus, num(1))}}, api.ErrArg},
		{[]api.Box{{N: 60, E: num(1)}, {N: 60, E: num(2)}}, api.ErrTwice},
		{[]api.Box{{N: 70, E: ref(71)}}, api.ErrBox},
		{[]api.Box{{N: 80, E: of(api.ExNeg, total("none"))}}, api.ErrWord},
		{[]api.Box{{N: 90, E: ref(91)}, {N: 91, E: ref(90)}}, api.ErrCycle},
	}
	c := rand.New(rand.NewSource(33))
	for set := range 1 << len(faults) {
		for range 20 {
			l, want := []api.Box{{N: 1, E: num(1)}, {N: 2, E: ref(1)}}, api.OK
			for i := len(faults) - 1; i >= 0; i-- {
				if set>>i&1 == 1 {
					l, want = append(l, faults[i].boxes...), faults[i].e
				}
			}
			c.Shuffle(len(l), func(i, j int) { l[i], l[j] = l[j], l[i] })
			if _, e := checker.Check(l); e != want {
				t.Fatal(set, int(e), int(want))
			}
			like(t, l)
		}
	}
}

// P33.1: two or more faults in one box, or in what is told of one number.
func TestFaultsTogether(t *testing.T) {
	for i, x := range []struct {
		l []api.Box
		e api.Errno
	}{
		{[]api.Box{{N: 0, E: ref(2)}}, api.ErrArg},
		{[]api.Box{{N: 1, E: ref(0)}}, api.ErrArg},
		{[]api.Box{{N: 1, E: num(-1)}, {N: 1, E: num(1)}}, api.ErrArg},
		{[]api.Box{{N: 1, E: ref(1)}, {N: 1, E: ref(1)}}, api.ErrTwice},
		{[]api.Box{{N: 1, E: ref(9)}, {N: 1, E: total("x")}}, api.ErrTwice},
		{[]api.Box{{N: 1, E: num(1)}, {N: 2, E: num(1)}, {N: 1, E: num(1)}}, api.ErrTwice},
		{[]api.Box{{N: 1, E: of(api.ExPlus, total("x"), ref(2))}}, api.ErrBox},
		{[]api.Box{{N: 1, E: of(api.ExPlus, ref(1), ref(2))}}, api.ErrBox},
		{[]api.Box{{N: 1, E: total("x")}, {N: 2, E: ref(3)}}, api.ErrBox},
		{[]api.Box{{N: 1, E: of(api.ExPlus, ref(1), total("x"))}}, api.ErrWord},
		{[]api.Box{{N: 1, E: ref(1)}, {N: 2, E: total("tax", "x")}}, api.ErrWord},
		{[]api.Box{{N: 1, E: ref(1)}, {N: 2, E: total("tax", "rate")}}, api.ErrCycle},
	} {
		if _, e := checker.Check(x.l); e != x.e {
			t.Error(i, int(e), int(x.e))
		}
		like(t, x.l)
	}
}

// P33.1 to P33.3: all programs of up to three boxes, each of which needs some of them, or one that is none; and all of four that need none but these.
func TestAllSmall(t *testing.T) {
	told := map[api.Errno]int{}
	for boxes, numbers := range [][]int{{}, {3, 9}, {9, 3, 7}, {2, 9999, 1, 5}, {4, 1, 3, 2}} {
		for set := range 1 << (boxes * len(numbers)) {
			l := make([]api.Box, boxes)
			for i := range l {
				l[i] = api.Box{N: numbers[i], E: num(i)}
				for j, n := range numbers {
					if set>>(i*len(numbers)+j)&1 == 1 {
						l[i].E = of(api.ExMinus, ref(n), l[i].E)
					}
				}
			}
			_, e := like(t, l)
			told[e]++
		}
	}
	if told[api.OK] < 500 || told[api.ErrBox] < 500 || told[api.ErrCycle] < 500 {
		t.Error(told)
	}
}

// P33.1: how many boxes, and which numbers they may have.
func TestLimits(t *testing.T) {
	for n := range 259 {
		l := make([]api.Box, n)
		for i := range l {
			l[i] = api.Box{N: 9999 - i, E: needing(9999 - (i+1)%n)} // each needs the next one, the last one the first
		}
		if _, e := checker.Check(l); n > 0 && n <= 256 && e != api.ErrCycle || n > 256 && e != api.ErrArg || n == 0 && e != api.OK {
			t.Error(n, int(e))
		}
		if n == 0 {
			continue
		}
		l[n-1].E = num(1)
		p, e := checker.Check(l)
		if (e == api.OK) != (n <= 256) || e != api.OK && e != api.ErrArg {
			t.Error(n, int(e))
		}
		for i, place := range p.Order() {
			if place != n-1-i {
				t.Error(n, i, place)
			}
		}
	}
	for n, want := range map[int]api.Errno{math.MinInt: api.ErrArg, -1: api.ErrArg, 0: api.ErrArg, 1: api.OK, 9999: api.OK, 10000: api.ErrArg, math.MaxInt: api.ErrArg} {
		if _, e := like(t, []api.Box{{N: n, E: num(1)}}); e != want {
			t.Error(n, int(e))
		}
	}
}

// P33.2, P33.3: as many boxes as may be, each of which needs as many as it can.
func TestFull(t *testing.T) {
	c := rand.New(rand.NewSource(256))
	for round := range 3 {
		l, rank := make([]api.Box, api.MaxBoxes), c.Perm(api.MaxBoxes)
		for i := range l {
			l[i].N = 1 + i*39
		}
		for i := range l {
			var ahead []api.Expr
			for j := range l {
				if rank[j] < rank[i] && (round == 0 || c.Intn(9) == 0) {
					ahead = append(ahead, ref(l[j].N))
				}
			}
			l[i].E = joined(ahead)
		}
		if _, e := like(t, l); e != api.OK {
			t.Error(round, int(e))
		}
	}
}

// joined tells a tree, as flat as can be, of expressions.
func joined(l []api.Expr) api.Expr {
	switch len(l) {
	case 0:
		return num(1)
	case 1:
		return l[0]
	}
	return of(api.ExMost, joined(l[:len(l)/2]), joined(l[len(l)/2:]))
}

// P33.1: Names: each Field and Tag, and what is none, in whatever stands around them.
func TestNames(t *testing.T) {
	wrong := []string{"", " ", "Base", "bas", "bases", "base ", "ßale", "owed", "deduct", "period", "doc", "state", "party", "box", "sum", strings.Repeat("a", 33), "\xff"}
	ask := func(e api.Expr, want bool) {
		t.Helper()
		if checker.Names(e) != want || named(e) != want {
			t.Error(e)
		}
		for kind, n := range many {
			for at := range n {
				kids := []api.Expr{num(1), total("tax", "late"), ref(1)}[:n]
				kids[at] = e
				if x := of(kind, kids...); checker.Names(x) != want || checker.Names(of(api.ExNeg, x)) != want {
					t.Error(x)
				}
			}
		}
	}
	for _, w := range slices.Concat(fields, tags, wrong) {
		isField, isTag := slices.Contains(fields, w), slices.Contains(tags, w)
		ask(total(w), isField)
		ask(total(w, "rate"), isField)
		for _, f := range fields {
			ask(total(f, w), isTag)
			ask(total(f, w, "rate"), isTag)
			ask(total(f, "rate", w), isTag)
			ask(total(f, "late", "sale", "mixed", w, "treat"), isTag)
		}
	}
	ask(num(1), true)
	ask(ref(1), true)
}

// P33.1: Names of trees that may not be.
func TestNamesOfAnyForm(t *testing.T) {
	long := total("base")
	for range 40 {
		long.Filters = append(long.Filters, api.Filter{Tag: "rate", N: -1})
	}
	around := func(e api.Expr) []api.Expr {
		in := total("base")
		in.Kids = []api.Expr{num(1), e}
		return []api.Expr{of(0, e), of(99, num(1), e), of(api.ExNum, e), of(api.ExNeg, num(1), num(1), num(1), e), in, of(api.ExPlus, e)}
	}
	for _, e := range []api.Expr{{}, {Kind: 44, Field: "x", Filters: []api.Filter{{Tag: "x"}}}, {Kind: api.ExNum, Field: "x"}, {Kind: api.ExTotal, N: -4, Field: "base"}, long} {
		for _, x := range append(around(e), e) {
			if !checker.Names(x) {
				t.Error(x)
			}
		}
	}
	long.Filters = append(long.Filters, api.Filter{})
	for _, e := range []api.Expr{{Kind: api.ExTotal}, total("x"), total("base", "x"), long} {
		for _, x := range append(around(e), e) {
			if checker.Names(x) {
				t.Error(x)
			}
		}
	}
	for _, last := range []string{"base", "x"} {
		far := total(last)
		for range 1 << 16 {
			far = of(api.ExNeg, far)
		}
		if checker.Names(far) != (last == "base") {
			t.Error("far", last)
		}
	}
}

// Rule 1: trees that are great, made of few lists, or have no end.
func TestGreat(t *testing.T) {
	for kind, n := range many {
		for _, last := range []api.Expr{num(1), ref(2), total("tax", "rate"), total("x")} {
			for deep := 60; deep <= 70; deep++ {
				e := last
				for range deep - 1 {
					e = of(kind, slices.Repeat([]api.Expr{e}, n)...)
				}
				l := []api.Box{{N: 1, E: e}, {N: 2, E: e}}
				want := api.OK
				switch {
				case deep > 64:
					want = api.ErrArg
				case last.Field == "x":
					want = api.ErrWord
				case last.Kind == api.ExRef:
					want = api.ErrCycle
				}
				p, got := checker.Check(l)
				b, is := p.Box(1)
				if got != want || checker.Names(e) != (last.Field != "x") || is != (want == api.OK) || is && !syntax.Same(l[1:], []api.Box{b}) {
					t.Error(kind, last, deep, int(got))
				}
			}
		}
		ring := make([]api.Expr, n)
		for i := range ring {
			ring[i] = of(kind, ring...)
		}
		e := of(kind, ring...)
		if _, got := checker.Check([]api.Box{{N: 1, E: e}}); got != api.ErrArg || !checker.Names(e) {
			t.Error("no end", kind, int(got))
		}
		ring[n-1] = api.Expr{Kind: api.ExTotal, Field: "in", Filters: []api.Filter{{Tag: "x"}}, Kids: ring}
		if checker.Names(e) {
			t.Error("no end, no name", kind)
		}
	}
}

// P33.2: a Plan that is nil, or that no call made.
func TestNoPlan(t *testing.T) {
	for _, p := range []*checker.Plan{nil, {}, new(checker.Plan)} {
		if p.Len() != 0 || len(p.Order()) != 0 {
			t.Error(p)
		}
		for _, n := range append([]int{0, 1, 2}, nowhere...) {
			b, is := p.Box(n)
			at, has := p.Find(n)
			if is || has || at != 0 || !reflect.DeepEqual(b, api.Box{}) || len(p.Needs(n)) != 0 {
				t.Error(p, n)
			}
		}
	}
	if p, e := checker.Check(nil); e != api.OK || p == nil || p.Len() != 0 {
		t.Error("a program without boxes", p, int(e))
	}
}

// chance tells a program, in which now and then something is wrong.
func chance(c *rand.Rand) []api.Box {
	l := make([]api.Box, c.Intn(12))
	rarely := func(often int) bool { return c.Intn(often) == 0 }
	numbers := c.Perm(30)
	for i := range l {
		l[i].N = 1 + numbers[i]
	}
	if len(l) > 1 && rarely(15) {
		l[0].N = l[len(l)-1].N
	}
	var tree func(i, deep int) api.Expr
	tree = func(i, deep int) api.Expr {
		if deep > 0 && !rarely(3) {
			kind := api.ExPlus + c.Intn(6)
			kids := make([]api.Expr, many[kind])
			for j := range kids {
				kids[j] = tree(i, deep-1)
			}
			return of(kind, kids...)
		}
		switch {
		case rarely(300):
			return api.Expr{Kind: c.Intn(11), N: c.Intn(3) - 1}
		case rarely(100):
			return total("x")
		case rarely(100):
			return ref(31)
		case rarely(60):
			return ref(l[c.Intn(len(l))].N)
		case i > 0 && rarely(2):
			return ref(l[c.Intn(i)].N)
		}
		return total(fields[c.Intn(4)], tags[c.Intn(6)])
	}
	for i := range l {
		l[i].E = tree(i, c.Intn(4))
	}
	c.Shuffle(len(l), func(i, j int) { l[i], l[j] = l[j], l[i] })
	return l
}

// P33.1 to P33.3: by chance.
func TestByChance(t *testing.T) {
	c, told := rand.New(rand.NewSource(34)), map[api.Errno]int{}
	for range 20000 {
		_, e := like(t, chance(c))
		told[e]++
	}
	for _, e := range []api.Errno{api.OK, api.ErrArg, api.ErrTwice, api.ErrBox, api.ErrWord, api.ErrCycle} {
		if told[e] < 300 {
			t.Error(told)
		}
	}
}

// P33.3: each box comes once, behind all that it needs.
func TestOrder(t *testing.T) {
	c, moved := rand.New(rand.NewSource(35)), 0
	for range 5000 {
		p, _ := checker.Check(chance(c))
		at := make([]int, p.Len())
		for i, place := range p.Order() {
			at[place] += 1 + i
			if i != place {
				moved++
			}
		}
		for i := range p.Len() {
			if at[i] == 0 || len(p.Order()) != p.Len() {
				t.Fatal(i, p.Order())
			}
			for _, j := range p.Needs(i) {
				if at[j] >= at[i] {
					t.Fatal(i, j, p.Order())
				}
			}
		}
	}
	if moved < 1000 {
		t.Error(moved)
	}
}

// Rules 4 and 5: a plan leans on nothing that was handed in or out.
func TestOwn(t *testing.T) {
	s := "box 3 = box 2 - box 1;\nbox 2 = sum(base, rate = 1900);\nbox 1 = 5;\n"
	l := read(t, s)
	p, _ := checker.Check(l)
	for _, handed := range [][]int{p.Order(), p.Needs(0)} {
		_ = append(handed, 9)
		clear(handed)
	}
	l[0].E.Kids[0].N, l[1].E.Filters[0].N, l[2].N = 1, 7, 8
	if !slices.Equal(p.Order(), []int{1, 2, 0}) || !slices.Equal(p.Needs(0), []int{1, 2}) || len(p.Needs(1)) > 0 {
		t.Error(p.Order(), p.Needs(0))
	}
	var told []api.Box
	for i := range p.Len() {
		b, _ := p.Box(i)
		told = append(told, b)
	}
	if syntax.Print(told) != s {
		t.Error(syntax.Print(told))
	}
	if _, is := p.Find(8); is {
		t.Error("changed")
	}
}

// Rules 4 and 8: what stands behind a list's length says nothing, is left as it is, and isn't handed out.
func TestSpareRoom(t *testing.T) {
	bad := []api.Box{{N: 2, E: api.Expr{Kind: api.ExTotal, Field: "in", Filters: []api.Filter{{Tag: "late", Sign: '=', N: 1}, {Tag: "x"}}}}, {N: 1, E: of(api.ExPlus, ref(2), num(1), ref(9), total("x"))}, {N: 2, E: num(-1)}}
	was := fmt.Sprint(bad)
	good := slices.Clone(bad[:2])
	good[0].E.Filters, good[1].E.Kids = good[0].E.Filters[:1], good[1].E.Kids[:2]
	l := append(good, bad[2])[:2]
	p, e := like(t, l)
	if e != api.OK || !checker.Names(l[0].E) || !checker.Names(l[1].E) {
		t.Fatal(int(e))
	}
	first, _ := p.Box(0)
	second, _ := p.Box(1)
	if cap(first.E.Filters) > 1 || cap(second.E.Kids) > 2 {
		t.Error("handed out")
	}
	if fmt.Sprint(bad) != was || fmt.Sprint(l[:3][2]) != fmt.Sprint(bad[2]) {
		t.Error("changed")
	}
}
