package syntax_test

import (
	"fmt"
	"math"
	"math/rand"
	"reflect"
	"regexp"
	"slices"
	"strconv"
	"strings"
	"testing"

	"octroi/api"
	"octroi/syntax"
)

const most = 999999999999999999 // the greatest number

var (
	keywords = strings.Fields("box sum min max clamp")
	signs    = map[byte]bool{'=': true, '<': true, '>': true}
	kinds    = []int{api.ExNum, api.ExRef, api.ExTotal, api.ExPlus, api.ExMinus, api.ExNeg, api.ExLeast, api.ExMost, api.ExClamp}
	letters  = regexp.MustCompile(`\A[abcdefghijklmnopqrstuvwxyz]{1,32}\z`)
	many     = map[int]int{api.ExPlus: 2, api.ExMinus: 2, api.ExLeast: 2, api.ExMost: 2, api.ExNeg: 1, api.ExClamp: 3} // of Kids
)

func num(n int) api.Expr { return api.Expr{Kind: api.ExNum, N: n} }

func ref(n int) api.Expr { return api.Expr{Kind: api.ExRef, N: n} }

func total(field string, f ...api.Filter) api.Expr {
	return api.Expr{Kind: api.ExTotal, Field: field, Filters: f}
}

func of(kind int, kids ...api.Expr) api.Expr { return api.Expr{Kind: kind, Kids: kids} }

func rate(n int) api.Filter { return api.Filter{Tag: "rate", Sign: '=', N: n} }

// The model: what the document says, word for word, over trees as they come.

func isName(w string) bool { return letters.MatchString(w) && !slices.Contains(keywords, w) }

func isNumber(n int) bool { return 0 <= n && n <= most }

func isBox(n int) bool { return 1 <= n && n <= 9999 }

func depth(e api.Expr) int {
	deep := 0
	for _, k := range e.Kids {
		deep = max(deep, depth(k))
	}
	return deep + 1
}

func may(e api.Expr) bool { return depth(e) <= 64 && mayAtAnyDepth(e) }

func mayAtAnyDepth(e api.Expr) bool {
	has := func(n int, field string, filters, kids int) bool {
		return e.N == n && e.Field == field && len(e.Filters) == filters && len(e.Kids) == kids
	}
	for _, f := range e.Filters {
		if !isName(f.Tag) || !signs[f.Sign] || !isNumber(f.N) {
			return false
		}
	}
	for _, k := range e.Kids {
		if !mayAtAnyDepth(k) {
			return false
		}
	}
	switch e.Kind {
	case api.ExNum:
		return isNumber(e.N) && has(e.N, "", 0, 0)
	case api.ExRef:
		return isBox(e.N) && has(e.N, "", 0, 0)
	case api.ExTotal:
		return isName(e.Field) && len(e.Filters) <= 16 && has(0, e.Field, len(e.Filters), 0)
	}
	return many[e.Kind] > 0 && has(0, "", 0, many[e.Kind])
}

// dump tells all of an expression, a list that is nil as one that is empty.
func dump(e api.Expr) string {
	var b strings.Builder
	var write func(e api.Expr)
	write = func(e api.Expr) {
		fmt.Fprintf(&b, "{%d %d %q [", e.Kind, e.N, e.Field)
		for _, f := range e.Filters {
			fmt.Fprintf(&b, "{%q %d %d}", f.Tag, f.Sign, f.N)
		}
		b.WriteString("] [")
		for _, k := range e.Kids {
			write(k)
		}
		b.WriteString("]}")
	}
	write(e)
	return b.String()
}

func dumpAll(l []api.Box) string {
	var s strings.Builder
	for _, b := range l {
		fmt.Fprintf(&s, "%d:%s;", b.N, dump(b.E))
	}
	return s.String()
}

// written tells the text of an expression that may be.
func written(e api.Expr) string {
	kid := func(i int) string { return written(e.Kids[i]) }
	closed := func(i int) string {
		if k := e.Kids[i].Kind; k == api.ExPlus || k == api.ExMinus {
			return "(" + kid(i) + ")"
		}
		return kid(i)
	}
	switch e.Kind {
	case api.ExNum:
		return strconv.Itoa(e.N)
	case api.ExRef:
		return fmt.Sprintf("box %d", e.N)
	case api.ExTotal:
		s := e.Field
		for _, f := range e.Filters {
			s += fmt.Sprintf(", %s %c %d", f.Tag, f.Sign, f.N)
		}
		return "sum(" + s + ")"
	case api.ExPlus:
		return kid(0) + " + " + closed(1)
	case api.ExMinus:
		return kid(0) + " - " + closed(1)
	case api.ExNeg:
		return "-" + closed(0)
	case api.ExLeast:
		return "min(" + kid(0) + ", " + kid(1) + ")"
	case api.ExMost:
		return "max(" + kid(0) + ", " + kid(1) + ")"
	}
	return "clamp(" + kid(0) + ", " + kid(1) + ", " + kid(2) + ")"
}

func refs(e api.Expr) []int {
	var l []int
	if e.Kind == api.ExRef {
		l = append(l, e.N)
	}
	for _, k := range e.Kids {
		l = append(l, refs(k)...)
	}
	slices.Sort(l)
	return slices.Compact(l)
}

// like asks whether all that is told of an expression is as its model.
func like(t *testing.T, e api.Expr) {
	t.Helper()
	good, was := may(e), dump(e)
	if syntax.GoodExpr(e) != good {
		t.Fatal("may be is not", good, was)
	}
	if deep := syntax.Deep(e); deep != min(depth(e), 65) {
		t.Fatal("deep", deep, was)
	}
	text, l := "", []int(nil)
	if good {
		text, l = written(e), refs(e)
	}
	if got := syntax.Text(e); got != text {
		t.Fatalf("%q, not %q, of %s", got, text, was)
	}
	if got := syntax.Refs(e); !slices.Equal(got, l) {
		t.Fatal(got, was)
	}
	for _, n := range []int{1, 0} {
		line := ""
		if good && n == 1 {
			line = "box 1 = " + text + ";\n"
		}
		if got := syntax.Print([]api.Box{{N: n, E: e}}); got != line {
			t.Fatalf("%q, not %q, of %s", got, line, was)
		}
		if syntax.Good([]api.Box{{N: n, E: e}}) != (line != "") {
			t.Fatal("program", n, was)
		}
	}
	if !syntax.Same([]api.Box{{E: e}}, []api.Box{{E: e}}) || dump(e) != was {
		t.Fatal("same, or changed", was)
	}
}

// P31.2: the example, and each way of writing.
func TestText(t *testing.T) {
	sum, less, neg := of(api.ExPlus, num(2), num(3)), of(api.ExMinus, num(2), num(3)), of(api.ExNeg, num(2))
	for want, e := range map[string]api.Expr{
		"1 - (2 + 3)":                       of(api.ExMinus, num(1), sum),
		"0":                                 num(0),
		"999999999999999999":                num(most),
		"box 1":                             ref(1),
		"box 9999":                          ref(9999),
		"sum(base)":                         total("base"),
		"sum(base, rate = 1900)":            total("base", rate(1900)),
		"sum(a, b < 1, c > 20, d = 0)":      total("a", api.Filter{Tag: "b", Sign: '<', N: 1}, api.Filter{Tag: "c", Sign: '>', N: 20}, api.Filter{Tag: "d", Sign: '='}),
		"2 + 3":                             sum,
		"2 - 3":                             less,
		"2 + 3 + 1":                         of(api.ExPlus, sum, num(1)),
		"2 + 3 - 1":                         of(api.ExMinus, sum, num(1)),
		"2 - 3 + 1":                         of(api.ExPlus, less, num(1)),
		"2 - 3 - 1":                         of(api.ExMinus, less, num(1)),
		"1 + (2 + 3)":                       of(api.ExPlus, num(1), sum),
		"1 + (2 - 3)":                       of(api.ExPlus, num(1), less),
		"1 - (2 - 3)":                       of(api.ExMinus, num(1), less),
		"2 + 3 - (2 - 3)":                   of(api.ExMinus, sum, less),
		"-2":                                neg,
		"--2":                               of(api.ExNeg, neg),
		"-(2 + 3)":                          of(api.ExNeg, sum),
		"-(2 - 3)":                          of(api.ExNeg, less),
		"--(2 - 3)":                         of(api.ExNeg, of(api.ExNeg, less)),
		"-2 + -2":                           of(api.ExPlus, neg, neg),
		"-2 - -2":                           of(api.ExMinus, neg, neg),
		"-box 7":                            of(api.ExNeg, ref(7)),
		"-sum(x)":                           of(api.ExNeg, total("x")),
		"-min(1, 2)":                        of(api.ExNeg, of(api.ExLeast, num(1), num(2))),
		"1 + min(1, 2)":                     of(api.ExPlus, num(1), of(api.ExLeast, num(1), num(2))),
		"min(2 + 3, 2 - 3)":                 of(api.ExLeast, sum, less),
		"max(-2, 2 + 3)":                    of(api.ExMost, neg, sum),
		"clamp(2 + 3, -2, 2 - 3)":           of(api.ExClamp, sum, neg, less),
		"clamp(box 1, max(0, 1), sum(tax))": of(api.ExClamp, ref(1), of(api.ExMost, num(0), num(1)), total("tax")),
	} {
		if got := syntax.Text(e); got != want {
			t.Errorf("%q, not %q", got, want)
		}
		like(t, e)
	}
}

// P31.1, P31.2: each kind in each kind, in each place.
func TestEachInEach(t *testing.T) {
	leaves := []api.Expr{num(5), ref(6), total("base", rate(7)), {}, num(-1), ref(0), total("box"), of(api.ExNeg), of(api.ExPlus, num(1)), of(10, num(1))}
	inner := slices.Clone(leaves)
	for kind, n := range many {
		for at := range n {
			for _, leaf := range leaves {
				kids := []api.Expr{num(1), num(2), num(3)}[:n]
				kids[at] = leaf
				inner = append(inner, of(kind, kids...))
			}
		}
	}
	for kind, n := range many {
		for at := range n {
			for _, e := range inner {
				kids := []api.Expr{ref(3), ref(2), ref(1)}[:n]
				kids[at] = e
				like(t, of(kind, kids...))
			}
		}
	}
}

// P31.1: what each kind has, all else being zero.
func TestAllElse(t *testing.T) {
	for _, kind := range append([]int{0, -1, 10, 11, 255, math.MinInt, math.MaxInt}, kinds...) {
		for _, n := range []int{0, 1, -1, 9999, 10000, most, most + 1, math.MinInt, math.MaxInt} {
			for _, field := range []string{"", "base", "box", "A"} {
				for _, filters := range [][]api.Filter{nil, {}, {rate(1)}, {{}}, {rate(1), rate(-1)}} {
					for kids := range 6 {
						e := api.Expr{Kind: kind, N: n, Field: field, Filters: filters, Kids: make([]api.Expr, kids)}
						for i := range e.Kids {
							e.Kids[i] = num(i)
						}
						like(t, e)
					}
				}
			}
		}
	}
}

// P31.1: numbers, of all that have some.
func TestNumbers(t *testing.T) {
	for n, want := range map[int][2]bool{ // a number, a box's
		math.MinInt: {}, -most: {}, -2: {}, -1: {}, 0: {true, false}, 1: {true, true}, 2: {true, true}, 9998: {true, true}, 9999: {true, true}, 10000: {true, false}, 10001: {true, false},
		1 << 32: {true, false}, 1<<32 + 1: {true, false}, most - 1: {true, false}, most: {true, false}, most + 1: {}, most + 2: {}, math.MaxInt: {},
	} {
		if syntax.GoodExpr(num(n)) != want[0] || syntax.GoodExpr(total("a", rate(n))) != want[0] || syntax.GoodExpr(ref(n)) != want[1] || syntax.Good([]api.Box{{N: n, E: num(0)}}) != want[1] {
			t.Error(n)
		}
		if printed := syntax.Print([]api.Box{{N: n, E: num(0)}}) != ""; printed != want[1] {
			t.Error(n)
		}
	}
	for n := range 10100 {
		if syntax.GoodExpr(ref(n)) != (n >= 1 && n <= 9999) {
			t.Error(n)
		}
	}
}

// P31.1: names, of Fields and Tags.
func TestNames(t *testing.T) {
	ask := func(w string, want bool) {
		t.Helper()
		if syntax.GoodExpr(total(w)) != want || syntax.GoodExpr(total("a", api.Filter{Tag: w, Sign: '='})) != want || isName(w) != want {
			t.Errorf("%.99q", w)
		}
	}
	for _, w := range []string{"a", "z", "az", "base", "treat", "boxes", "bo", "ox", "summ", "su", "mini", "maxx", "clam", "clamps", "boxbox", "abcdefghijklmnopqrstuvwxyz", strings.Repeat("q", 31), strings.Repeat("q", 32)} {
		ask(w, true)
	}
	for _, w := range append([]string{"", " ", "A", "Base", "base ", " base", "a b", "a1", "1", "a-b", "a_b", "é", "aé", "\xff", "a\x00", "BOX", strings.Repeat("q", 33), strings.Repeat("q", 64), strings.Repeat("q", 1<<20), strings.Repeat("é", 16)}, keywords...) {
		ask(w, false)
	}
	for x := range 256 {
		for _, w := range []string{string([]byte{byte(x)}), string([]byte{'a', byte(x)}), string([]byte{byte(x), 'a'}), strings.Repeat("b", 31) + string([]byte{byte(x)})} {
			ask(w, x >= 'a' && x <= 'z')
		}
	}
}

// P31.1: Filters: signs, and how many; one that may not be, in each place.
func TestFilters(t *testing.T) {
	for x := range 256 {
		if syntax.GoodExpr(total("a", api.Filter{Tag: "b", Sign: byte(x)})) != (x == '=' || x == '<' || x == '>') {
			t.Error(x)
		}
	}
	for n := range 40 {
		l := make([]api.Filter, n)
		for i := range l {
			l[i] = rate(i)
		}
		like(t, total("a", l...))
		if syntax.GoodExpr(total("a", l...)) != (n <= 16) {
			t.Error(n)
		}
		for i := range l {
			for _, f := range []api.Filter{{}, rate(-1), {Tag: "a", N: 1}, {Tag: "sum", Sign: '='}, {Sign: '<'}} {
				l[i] = f
				like(t, total("a", l...))
				l[i] = rate(i)
			}
		}
	}
}

// line tells a tree that is so deep, through the at-th Kid of each.
func line(deep, kind, at int, last api.Expr) api.Expr {
	e := last
	for range deep - 1 {
		kids := make([]api.Expr, max(many[kind], 1))
		for i := range kids {
			kids[i] = num(1)
		}
		kids[at] = e
		e = of(kind, kids...)
	}
	return e
}

// P31.1: how deep, through each Kid of each kind, and of what is no kind; what may not be is found however deep it is.
func TestDeep(t *testing.T) {
	for _, kind := range append([]int{0, 99}, kinds...) {
		for at := range max(many[kind], 1) {
			for deep := 1; deep <= 130; deep++ {
				e := line(deep, kind, at, num(1))
				if got := syntax.Deep(e); got != min(deep, 65) {
					t.Fatal(kind, at, deep, got)
				}
				want := deep <= 64 && many[kind] > 0 || deep == 1
				if syntax.GoodExpr(e) != want || (syntax.Text(e) != "") != want || syntax.Good([]api.Box{{N: 1, E: num(1)}, {N: 2, E: e}}) != want {
					t.Fatal(kind, at, deep)
				}
				if want {
					like(t, e)
				}
				for _, bad := range []api.Expr{{}, num(-1), ref(0), total(""), of(api.ExNeg, num(1), num(1))} {
					if syntax.GoodExpr(line(deep, kind, at, bad)) {
						t.Fatal(kind, at, deep, bad)
					}
				}
				if l := syntax.Refs(line(deep, kind, at, ref(77))); slices.Equal(l, []int{77}) != want || !want && len(l) > 0 {
					t.Fatal(kind, at, deep, l)
				}
			}
		}
	}
	if got := syntax.Deep(api.Expr{}); got != 1 {
		t.Error(got)
	}
}

// P31.1: trees of all forms: what is deep may stand behind what is not, and one list in places of unlike depth.
func TestDeepest(t *testing.T) {
	for a := 1; a <= 66; a += 5 {
		for b := 60; b <= 66; b++ {
			for _, kids := range [][]api.Expr{{line(a, api.ExNeg, 0, num(1)), line(b, api.ExPlus, 1, num(1))}, {line(b, api.ExMost, 1, num(1)), line(a, api.ExClamp, 2, num(1))}, {num(1), line(a, 3, 0, num(1)), line(b, 3, 0, num(1)), num(2)}} {
				like(t, of(api.ExPlus, kids...))
				like(t, of(0, kids...))
			}
		}
	}
	for deep := range 70 {
		shared := line(30, api.ExNeg, 0, ref(5))
		e := of(api.ExPlus, shared, line(max(deep, 1), api.ExNeg, 0, shared))
		like(t, e)
		if got := syntax.Deep(e); got != min(max(deep, 1)+30, 65) {
			t.Error(deep, got)
		}
		e.Kids[0], e.Kids[1] = e.Kids[1], e.Kids[0]
		like(t, e)
	}
	long := of(api.ExPlus, make([]api.Expr, 100000)...)
	if syntax.Deep(long) != 2 || syntax.GoodExpr(long) {
		t.Error("long")
	}
	far := line(1<<16, api.ExNeg, 0, num(1))
	if syntax.Deep(far) != 65 || syntax.GoodExpr(far) || syntax.Text(far) != "" || len(syntax.Refs(far)) != 0 || syntax.Print([]api.Box{{N: 1, E: far}}) != "" {
		t.Error("far")
	}
	if !syntax.Same([]api.Box{{E: far}}, []api.Box{{E: line(1<<16, api.ExNeg, 0, num(1))}}) || syntax.Same([]api.Box{{E: far}}, []api.Box{{E: line(1<<16, api.ExNeg, 0, num(2))}}) || syntax.Same([]api.Box{{E: far}}, []api.Box{{E: line(1<<16-1, api.ExNeg, 0, num(1))}}) {
		t.Error("far, same")
	}
}

// rings tells trees that have themselves in them, so many parts going round.
func ring(many int, kind int, kids int) api.Expr {
	lists := make([][]api.Expr, many)
	for i := range lists {
		lists[i] = make([]api.Expr, kids)
	}
	for i := range lists {
		for j := range lists[i] {
			lists[i][j] = of(kind, lists[(i+1)%many]...)
		}
	}
	return of(kind, lists[0]...)
}

// Rule 1: each call ends of a tree that has no end.
func TestNoEnd(t *testing.T) {
	same := func(a, b api.Expr) bool { return syntax.Same([]api.Box{{N: 1, E: a}}, []api.Box{{N: 1, E: b}}) }
	for kind, n := range many {
		for round := 1; round <= 5; round++ {
			e := ring(round, kind, n)
			if syntax.Deep(e) != 65 || syntax.GoodExpr(e) || syntax.Text(e) != "" || len(syntax.Refs(e)) != 0 || syntax.Good([]api.Box{{N: 1, E: e}}) || syntax.Print([]api.Box{{N: 1, E: e}}) != "" {
				t.Error(kind, round)
			}
			if !same(e, e) || !same(e, ring(3, kind, n)) || same(e, ring(round, kind, n+1)) || same(e, ring(round, 0, n)) || same(e, num(1)) || same(num(1), e) || same(e, line(100, kind, 0, num(1))) {
				t.Error("same", kind, round)
			}
			other := ring(round+1, kind, n)
			other.Kids[n-1].N = 1
			if same(e, other) || same(other, e) {
				t.Error("other", kind, round)
			}
		}
	}
}

// twice tells a tree that is so deep, each of whose parts has another one in each of its Kids' places.
func twice(deep int, kind int, last api.Expr) api.Expr {
	e := last
	for range deep - 1 {
		kids := make([]api.Expr, many[kind])
		for i := range kids {
			kids[i] = e
		}
		e = of(kind, kids...)
	}
	return e
}

// Rule 1: trees that are great, made of few lists.
func TestGreat(t *testing.T) {
	for kind, n := range many {
		for deep, want := range map[int]bool{62: true, 63: true, 64: true, 65: false, 66: false, 99: false} {
			e := twice(deep, kind, ref(8))
			if syntax.GoodExpr(e) != want || syntax.Deep(e) != min(deep, 65) || slices.Equal(syntax.Refs(e), []int{8}) != want {
				t.Error(kind, deep)
			}
			a, b, c, d := []api.Box{{N: 1, E: e}}, []api.Box{{N: 1, E: twice(deep, kind, ref(8))}}, []api.Box{{N: 1, E: twice(deep, kind, ref(9))}}, []api.Box{{N: 1, E: twice(deep+1, kind, ref(8))}}
			if !syntax.Same(a, b) || syntax.Same(a, c) || syntax.Same(a, d) || syntax.Same(d, a) || syntax.Good(a) != want {
				t.Error("same", kind, deep)
			}
			if syntax.GoodExpr(twice(deep, kind, ref(0))) || len(syntax.Refs(twice(deep, kind, num(1)))) != 0 {
				t.Error("bad", kind, deep)
			}
			e.Kids[n-1] = twice(min(deep, 64)-1, kind, num(7))
			if syntax.GoodExpr(e) != (want || n == 1) {
				t.Error("last", kind, deep)
			}
		}
		if e := twice(9, kind, ref(8)); syntax.Text(e) != written(e) {
			t.Error(kind)
		}
	}
}

// P31.1: programs: how many boxes, and one that may not be, in each place.
func TestGood(t *testing.T) {
	for n := range 300 {
		l := make([]api.Box, n)
		for i := range l {
			l[i] = api.Box{N: 1 + i*33, E: of(api.ExMinus, ref(1+i), num(i))}
		}
		if syntax.Good(l) != (n <= 256) {
			t.Error(n)
		}
		for _, i := range []int{0, n / 2, n - 1} {
			for _, bad := range []api.Box{{}, {N: 1}, {N: 0, E: num(1)}, {N: 10000, E: num(1)}, {N: -1, E: num(1)}, {N: 1, E: num(-1)}, {N: 1, E: line(65, api.ExNeg, 0, num(1))}} {
				if n == 0 {
					continue
				}
				was := l[i]
				l[i] = bad
				if syntax.Good(l) {
					t.Error(n, i, bad)
				}
				want := ""
				for j, b := range l {
					if j != i {
						want += "box " + strconv.Itoa(b.N) + " = " + written(b.E) + ";\n"
					}
				}
				if n < 10 || n > 297 {
					if got := syntax.Print(l); got != want {
						t.Fatal(n, i, bad)
					}
				}
				l[i] = was
			}
		}
	}
	if !syntax.Good(nil) || !syntax.Good([]api.Box{}) || syntax.Print(nil) != "" || !syntax.Same(nil, []api.Box{}) {
		t.Error("nothing")
	}
	if l := []api.Box{{N: 5, E: num(1)}, {N: 5, E: num(1)}, {N: 2, E: ref(9)}}; !syntax.Good(l) || syntax.Print(l) != "box 5 = 1;\nbox 5 = 1;\nbox 2 = box 9;\n" {
		t.Error(syntax.Print(l))
	}
}

// P31.1: programs that differ in one thing, wherever it is, are not the same.
func TestSame(t *testing.T) {
	made := func() []api.Box {
		return []api.Box{
			{N: 1, E: of(api.ExPlus, total("base", rate(1), api.Filter{Tag: "late", Sign: '<', N: 2}), of(api.ExNeg, ref(2)))},
			{N: 2, E: num(7)},
			{N: -3, E: api.Expr{Kind: 44, N: -5, Field: "?", Filters: []api.Filter{{}}, Kids: []api.Expr{{}, num(1)}}},
		}
	}
	l := made()
	if !syntax.Same(l, made()) || !syntax.Same(made(), l) || !syntax.Same(l, l) {
		t.Error("same")
	}
	for i, change := range []func(){
		func() { l[0].N = 2 },
		func() { l[2].N = 3 },
		func() { l[0].E.Kind = api.ExMinus },
		func() { l[0].E.N = 1 },
		func() { l[0].E.Field = "a" },
		func() { l[0].E.Filters = []api.Filter{{}} },
		func() { l[0].E.Kids = l[0].E.Kids[:1] },
		func() { l[0].E.Kids = nil },
		func() { l[0].E.Kids = append(l[0].E.Kids, num(1)) },
		func() { l[0].E.Kids[0], l[0].E.Kids[1] = l[0].E.Kids[1], l[0].E.Kids[0] },
		func() { l[0].E.Kids[0].Field = "tax" },
		func() { l[0].E.Kids[0].Filters[0].Tag = "treat" },
		func() { l[0].E.Kids[0].Filters[0].Sign = '>' },
		func() { l[0].E.Kids[0].Filters[1].N = 3 },
		func() { l[0].E.Kids[0].Filters = l[0].E.Kids[0].Filters[:1] },
		func() { l[0].E.Kids[0].Filters = l[0].E.Kids[0].Filters[1:] },
		func() { slices.Reverse(l[0].E.Kids[0].Filters) },
		func() { l[0].E.Kids[1].Kids[0].N = 3 },
		func() { l[0].E.Kids[1].Kids[0].Kind = api.ExNum },
		func() { l[0].E.Kids[1].Kids = nil },
		func() { l[1].E.N = 8 },
		func() { l[1].E.Kids = []api.Expr{{}} },
		func() { l[2].E.Kids[1].N = 2 },
		func() { l[2].E.Field = "" },
		func() { l = l[:2] },
		func() { l = l[1:] },
		func() { l = nil },
		func() { l = append(l, api.Box{}) },
		func() { l[0], l[1] = l[1], l[0] },
	} {
		l = made()
		change()
		if syntax.Same(l, made()) || syntax.Same(made(), l) || !syntax.Same(l, l) {
			t.Error(i)
		}
	}
	a, b := made(), made()
	a[1].E.Kids, a[1].E.Filters = []api.Expr{}, []api.Filter{}
	if !syntax.Same(a, b) || !syntax.Same(b, a) || !syntax.Same(a[:0], nil) {
		t.Error("nil and empty")
	}
}

// P31.3: rising, each once.
func TestRefs(t *testing.T) {
	for want, e := range map[string]api.Expr{
		"[]":             num(5),
		"[5]":            ref(5),
		"[1 2 9999]":     of(api.ExClamp, ref(9999), of(api.ExNeg, ref(1)), of(api.ExPlus, ref(2), ref(1))),
		"[3]":            of(api.ExMinus, ref(3), ref(3)),
		"[2 10 100]":     of(api.ExLeast, of(api.ExMost, ref(100), ref(2)), of(api.ExPlus, ref(10), ref(100))),
		"[4 7]":          of(api.ExPlus, of(api.ExMinus, total("base", rate(9)), ref(7)), of(api.ExNeg, ref(4))),
		"[6 8]":          of(api.ExPlus, of(api.ExNeg, ref(8)), of(api.ExPlus, of(api.ExNeg, ref(6)), of(api.ExNeg, ref(8)))),
		"[] of no total": of(api.ExPlus, ref(1), total("")),
		"[] of no box":   of(api.ExPlus, ref(1), ref(0)),
		"[] of no kind":  of(0, ref(1)),
		"[] of too deep": of(api.ExPlus, ref(1), line(64, api.ExNeg, 0, ref(2))),
		"[63]":           of(api.ExPlus, num(1), line(63, api.ExNeg, 0, ref(63))),
	} {
		if got := fmt.Sprint(syntax.Refs(e)); got != strings.Split(want, " of")[0] {
			t.Error(got, want)
		}
		like(t, e)
	}
	e := of(api.ExPlus, ref(2), ref(1))
	l := syntax.Refs(e)
	_ = append(l, 5)
	clear(l)
	if !slices.Equal(syntax.Refs(e), []int{1, 2}) {
		t.Error("not the caller's own")
	}
}

// small tells all trees that may be and have so many parts, of a few leaves.
func small(parts int) []api.Expr {
	all := make([][]api.Expr, parts+1)
	all[1] = []api.Expr{num(1), num(12), ref(1), total("a"), total("a", api.Filter{Tag: "b", Sign: '<', N: 1})}
	for n := 2; n <= parts; n++ {
		for _, a := range all[n-1] {
			all[n] = append(all[n], of(api.ExNeg, a))
		}
		for i := 1; i < n-1; i++ {
			for _, a := range all[i] {
				for _, b := range all[n-1-i] {
					for _, kind := range []int{api.ExPlus, api.ExMinus, api.ExLeast, api.ExMost} {
						all[n] = append(all[n], of(kind, a, b))
					}
				}
			}
		}
		for i := 1; i < n-2; i++ {
			for j := 1; i+j < n-1; j++ {
				for _, a := range all[i] {
					for _, b := range all[j] {
						for _, c := range all[n-1-i-j] {
							all[n] = append(all[n], of(api.ExClamp, a, b, c))
						}
					}
				}
			}
		}
	}
	return slices.Concat(all...)
}

// P31.4: all small trees have unlike texts, and so have programs of them.
func TestOneText(t *testing.T) {
	trees := small(5)
	texts := map[string]int{}
	for i, e := range trees {
		text := syntax.Text(e)
		if j, is := texts[text]; is || text == "" {
			t.Fatalf("%q: %s, %s", text, dump(e), dump(trees[j]))
		}
		texts[text] = i
	}
	some := small(3)
	programs := [][]api.Box{{}}
	for _, n := range []int{1, 2, 12} {
		for _, e := range some {
			programs = append(programs, []api.Box{{N: n, E: e}})
			for _, f := range small(1) {
				programs = append(programs, []api.Box{{N: n, E: e}, {N: 1, E: f}}, []api.Box{{N: 1, E: f}, {N: n, E: e}, {N: 1, E: f}})
			}
		}
	}
	clear(texts)
	for i, l := range programs {
		text := syntax.Print(l)
		j, is := texts[text]
		if is != (is && syntax.Same(l, programs[j])) || !syntax.Good(l) {
			t.Fatalf("%q: %s", text, dumpAll(l))
		}
		texts[text] = i
	}
	if len(trees) < 5000 || len(texts) < 3000 {
		t.Error(len(trees), len(texts))
	}
}

// chance tells a tree, which may be, but for what spoils it now and then.
func chance(c *rand.Rand, deep int, spoil bool) api.Expr {
	if spoil && c.Intn(30) == 0 {
		return api.Expr{Kind: c.Intn(12) - 1, N: c.Intn(3) - 1, Field: []string{"", "base"}[c.Intn(2)], Kids: make([]api.Expr, c.Intn(4))}
	}
	if deep <= 1 || c.Intn(6) == 0 {
		switch c.Intn(3) {
		case 0:
			return num(c.Int() % (most + 1))
		case 1:
			return ref(1 + c.Intn(9999))
		}
		l := make([]api.Filter, c.Intn(5))
		for i := range l {
			l[i] = api.Filter{Tag: string(rune('a' + c.Intn(26))), Sign: "=<>"[c.Intn(3)], N: c.Intn(3000)}
		}
		return total("base", l...)
	}
	kind := kinds[3+c.Intn(6)]
	kids := make([]api.Expr, many[kind])
	for i := range kids {
		kids[i] = chance(c, 1+c.Intn(deep-1), spoil)
	}
	kids[c.Intn(len(kids))] = chance(c, deep-1, spoil)
	return of(kind, kids...)
}

// P31.1 to P31.4: by chance.
func TestByChance(t *testing.T) {
	c, bad := rand.New(rand.NewSource(31)), 0
	var was []api.Box
	for i := range 20000 {
		e := chance(c, 1+c.Intn(9), i%2 == 0)
		like(t, e)
		if !syntax.GoodExpr(e) {
			bad++
		}
		l := []api.Box{{N: 1 + c.Intn(9999), E: e}, {N: c.Intn(2), E: e}}
		if syntax.Same(l, was) != (dumpAll(l) == dumpAll(was)) {
			t.Fatal(dumpAll(l), dumpAll(was))
		}
		was = l
	}
	if bad < 1000 || bad > 9000 {
		t.Error("trees that may not be", bad)
	}
}

// filled tells a tree of lists behind whose length something stands, and these, cut to where they end.
func filled(e api.Expr) api.Expr {
	filters := append(slices.Clone(e.Filters), api.Filter{Tag: "?", N: -1}, api.Filter{})
	e.Filters = filters[:len(e.Filters)]
	kids := make([]api.Expr, 0, len(e.Kids)+2)
	for _, k := range e.Kids {
		kids = append(kids, filled(k))
	}
	e.Kids = append(kids, api.Expr{Kind: -1}, line(70, api.ExNeg, 0, num(1)))[:len(kids)]
	return e
}

// whole tells a tree with all that its lists have room for.
func whole(e api.Expr) api.Expr {
	e.Filters = e.Filters[:cap(e.Filters)]
	kids := []api.Expr{}
	for _, k := range e.Kids[:cap(e.Kids)] {
		kids = append(kids, whole(k))
	}
	e.Kids = kids
	return e
}

// Rules 4 and 8: what stands behind a list's length says nothing, and is left as it is.
func TestSpareRoom(t *testing.T) {
	c := rand.New(rand.NewSource(8))
	for range 500 {
		plain := chance(c, 5, false)
		e := filled(plain)
		was := dump(whole(e))
		like(t, e)
		l := []api.Box{{N: 1, E: e}, {N: 0, E: num(-1)}}
		if !syntax.Same(l[:1], []api.Box{{N: 1, E: plain}}) || !syntax.Good(l[:1]) || syntax.Print(l[:1]) != "box 1 = "+written(plain)+";\n" {
			t.Fatal(was)
		}
		if dump(whole(e)) != was || !reflect.DeepEqual(l[1], api.Box{N: 0, E: num(-1)}) {
			t.Fatal("changed", was)
		}
	}
}
