package parser_test

import (
	"fmt"
	"math/rand"
	"slices"
	"strings"
	"testing"

	"octroi/api"
	"octroi/lexer"
	"octroi/parser"
	"octroi/syntax"
)

const nines = "999999999999999999" // the greatest number

func num(n int) api.Expr { return api.Expr{Kind: api.ExNum, N: n} }

func ref(n int) api.Expr { return api.Expr{Kind: api.ExRef, N: n} }

func total(field string, f ...api.Filter) api.Expr {
	return api.Expr{Kind: api.ExTotal, Field: field, Filters: f}
}

func of(kind int, kids ...api.Expr) api.Expr { return api.Expr{Kind: kind, Kids: kids} }

// short tells how a text begins: it may be long.
func short(s string) string { return s[:min(len(s), 300)] }

// program asks whether a text is told as this program, or this error.
func program(t *testing.T, s string, l []api.Box, at int, e api.Errno) {
	t.Helper()
	got, gotAt, gotE := parser.Parse(s)
	if gotAt != at || gotE != e || !syntax.Same(got, l) {
		t.Fatalf("%q: %.300s, %d, %d, not %.300s, %d, %d", short(s), fmt.Sprint(got), gotAt, int(gotE), fmt.Sprint(l), at, int(e))
	}
	if !syntax.Good(got) || e != api.OK && len(got) != 0 {
		t.Fatalf("%q: may not be", short(s))
	}
}

// expr asks whether a text is told as this expression, or this error, alone and as a box's.
func expr(t *testing.T, s string, x api.Expr, at int, e api.Errno) {
	t.Helper()
	got, gotAt, gotE := parser.Expr(s)
	if gotAt != at || gotE != e || !syntax.Same([]api.Box{{E: got}}, []api.Box{{E: x}}) {
		t.Fatalf("%q: %.300s, %d, %d, not %.300s, %d, %d", short(s), fmt.Sprint(got), gotAt, int(gotE), fmt.Sprint(x), at, int(e))
	}
	if e == api.OK && !syntax.GoodExpr(got) {
		t.Fatalf("%q: may not be", short(s))
	}
}

const before = "box 7 = 8;\nbox 9 = "

// no asks for an error at a place of an expression, and of a box's.
func no(t *testing.T, s string, at int, e api.Errno) {
	t.Helper()
	expr(t, s, api.Expr{}, at, e)
	if at == len(s) || s[at] != ';' { // which may be next behind a box's
		program(t, before+s, nil, at+len(before), e)
	}
}

// told asks for an error of an expression that is by the grammar, and of a box's; or for none.
func told(t *testing.T, s string, e api.Errno) {
	t.Helper()
	x, at, got := parser.Expr(s)
	if at != 0 || got != e || syntax.GoodExpr(x) != (e == api.OK) {
		t.Fatal(s, at, int(got))
	}
	l, at, got := parser.Parse(before + s + ";box 1 = 1;")
	if at != 0 || got != e || len(l) > 0 != (e == api.OK) || !syntax.Good(l) {
		t.Fatal(s, at, int(got))
	}
}

// P32.1: the example.
func TestExample(t *testing.T) {
	program(t, "box 1 = 1 - 2 - 3;", []api.Box{{N: 1, E: of(api.ExMinus, of(api.ExMinus, num(1), num(2)), num(3))}}, 0, api.OK)
	expr(t, "1 - 2 - 3", of(api.ExMinus, of(api.ExMinus, num(1), num(2)), num(3)), 0, api.OK)
}

// P32.1, P32.2: each rule of the grammar.
func TestTrees(t *testing.T) {
	for s, x := range map[string]api.Expr{
		"0":                                    num(0),
		"007":                                  num(7),
		nines:                                  num(999999999999999999),
		"box 1":                                ref(1),
		"box9999":                              ref(9999),
		"box 0001":                             ref(1),
		"sum(base)":                            total("base"),
		"sum(a,b=1)":                           total("a", api.Filter{Tag: "b", Sign: '=', N: 1}),
		"sum(a,b<0,c>" + nines + ",a=007)":     total("a", api.Filter{Tag: "b", Sign: '<'}, api.Filter{Tag: "c", Sign: '>', N: 999999999999999999}, api.Filter{Tag: "a", Sign: '=', N: 7}),
		"1+2":                                  of(api.ExPlus, num(1), num(2)),
		"1-2":                                  of(api.ExMinus, num(1), num(2)),
		"1+2+3":                                of(api.ExPlus, of(api.ExPlus, num(1), num(2)), num(3)),
		"1-2+3":                                of(api.ExPlus, of(api.ExMinus, num(1), num(2)), num(3)),
		"1+2-3":                                of(api.ExMinus, of(api.ExPlus, num(1), num(2)), num(3)),
		"1-(2-3)":                              of(api.ExMinus, num(1), of(api.ExMinus, num(2), num(3))),
		"(1-2)-3":                              of(api.ExMinus, of(api.ExMinus, num(1), num(2)), num(3)),
		"((1))":                                num(1),
		"-1":                                   of(api.ExNeg, num(1)),
		"--1":                                  of(api.ExNeg, of(api.ExNeg, num(1))),
		"-1+2":                                 of(api.ExPlus, of(api.ExNeg, num(1)), num(2)),
		"1+-2":                                 of(api.ExPlus, num(1), of(api.ExNeg, num(2))),
		"1--2":                                 of(api.ExMinus, num(1), of(api.ExNeg, num(2))),
		"1---2":                                of(api.ExMinus, num(1), of(api.ExNeg, of(api.ExNeg, num(2)))),
		"-(1+2)":                               of(api.ExNeg, of(api.ExPlus, num(1), num(2))),
		"-(1)+2":                               of(api.ExPlus, of(api.ExNeg, num(1)), num(2)),
		"-box 3":                               of(api.ExNeg, ref(3)),
		"min(1,2)":                             of(api.ExLeast, num(1), num(2)),
		"max(1,2)":                             of(api.ExMost, num(1), num(2)),
		"clamp(1,2,3)":                         of(api.ExClamp, num(1), num(2), num(3)),
		"min(1-2-3,-4)":                        of(api.ExLeast, of(api.ExMinus, of(api.ExMinus, num(1), num(2)), num(3)), of(api.ExNeg, num(4))),
		"max((1),min(2,3))-4":                  of(api.ExMinus, of(api.ExMost, num(1), of(api.ExLeast, num(2), num(3))), num(4)),
		"clamp(box 1,sum(a),-1)":               of(api.ExClamp, ref(1), total("a"), of(api.ExNeg, num(1))),
		"sum(boxes)":                           total("boxes"),
		"sum(" + strings.Repeat("q", 32) + ")": total(strings.Repeat("q", 32)),
		"#\n1 # 2\n +\t\r3 #":                  of(api.ExPlus, num(1), num(3)),
		"box#\n1":                              ref(1),
		" sum ( base , rate = 1 ) ":            total("base", api.Filter{Tag: "rate", Sign: '=', N: 1}),
	} {
		expr(t, s, x, 0, api.OK)
		program(t, "box 5="+s+"\n;", []api.Box{{N: 5, E: x}}, 0, api.OK)
		program(t, "box 9999 = "+s+"\n;box 1="+s+"\n;box 9999=0;# ;", []api.Box{{N: 9999, E: x}, {N: 1, E: x}, {N: 9999, E: num(0)}}, 0, api.OK)
		no(t, s+"\n?", len(s)+1, api.ErrWord)
	}
	for _, s := range []string{"", " ", "\n", "# box", "#\n\t"} {
		program(t, s, nil, 0, api.OK)
		expr(t, s, api.Expr{}, len(s), api.ErrSyntax)
	}
}

// P32.1, P32.2: the first token that can't be next, and the end, where one is wanted.
func TestSyntax(t *testing.T) {
	for s, at := range map[string]int{
		"1 2": 2, "1 box 2": 2, "1 (2)": 2, "1 sum": 2, "1 a": 2, "1)": 1, "1,": 1, "1=": 1, "1 =": 2, "1 < 2": 2, "1;;": 1,
		"+": 0, "+1": 0, "1 + + 2": 4, "1 + )": 4, "1 - ;": 4, "1+": 2, "1 - ": 4, "1 -- ": 5, "-": 1, "- ": 2, "-+1": 1, "- )": 2, "a": 0, "base": 0, ")": 0, ",": 0, ";": 0, "=": 0, "<": 0, ">": 0,
		"(": 1, "()": 1, "(1": 2, "(1 ": 3, "(1 2)": 3, "(1,2)": 2, "(1;": 2, "(1))": 3, "((1)": 4, "(box)": 4, "(a)": 1,
		"box": 3, "box ": 4, "box a": 4, "box (1)": 4, "box -1": 4, "box box": 4, "box 1 2": 6, "box;": 3, "boxes 1": 0, "box 1 = 2": 6,
		"sum": 3, "sum base": 4, "sum 1": 4, "sum(": 4, "sum()": 4, "sum(1)": 4, "sum(box)": 4, "sum(sum)": 4, "sum(min)": 4, "sum(max)": 4, "sum(clamp)": 4, "sum((a))": 4, "sum(a": 5, "sum(a b)": 6, "sum(a=1)": 5, "sum(a+b)": 5, "sum(a;": 5,
		"sum(a,": 6, "sum(a,)": 6, "sum(a,1)": 6, "sum(a,box=1)": 6, "sum(a,b": 7, "sum(a,b)": 7, "sum(a,b,": 7, "sum(a,b 1)": 8, "sum(a,b+1)": 7, "sum(a,b=": 8, "sum(a,b=)": 8, "sum(a,b=c)": 8, "sum(a,b=-1)": 8, "sum(a,b==1)": 8, "sum(a,b<=1)": 8, "sum(a,b=1": 9, "sum(a,b=1 2)": 10, "sum(a,b=1=": 9, "sum(a,b=1,": 10, "sum(a,b=1,)": 10, "sum(a,b=1;": 9, "sum(a)(": 6, "sum(a) b": 7,
		"min": 3, "min 1": 4, "min(": 4, "min()": 4, "min(1": 5, "min(1)": 5, "min(1,": 6, "min(1,)": 6, "min(1,2": 7, "min(1,2,": 7, "min(1,2,3)": 7, "min(1 2)": 6, "min(1;": 5, "min(,": 4, "min(1,2))": 8, "min(1,2) 3": 9, "min,": 3,
		"max": 3, "max 1": 4, "max(": 4, "max()": 4, "max(1)": 5, "max(1,2,3)": 7, "max(a,b)": 4, "max(1,2": 7,
		"clamp": 5, "clamp(": 6, "clamp 1": 6, "clamp(1)": 7, "clamp(1,2)": 9, "clamp(1,2,3,4)": 11, "clamp(1,2,": 10, "clamp(1,2,)": 10, "clamp(1,2,3": 11, "clamp(1;": 7,
		"sum(" + strings.Repeat("q", 33) + ")": 4, "sum(a," + strings.Repeat("q", 33) + "=1)": 6, "sum(" + strings.Repeat("q", 32) + " )1": 38,
	} {
		no(t, s, at, api.ErrSyntax)
		no(t, "\t"+s, at+1, api.ErrSyntax)
		no(t, "2+"+s, at+2, api.ErrSyntax)
		no(t, "-"+s, at+1, api.ErrSyntax)
		if at < len(s) { // what stands behind says nothing
			for _, behind := range []string{" 1", "(", ";", " a", strings.Repeat("(", 99), "\n box 0 = 1;"} {
				no(t, s+behind, at, api.ErrSyntax)
			}
		}
	}
	for s, at := range map[string]int{
		"1": 0, "a": 0, ";": 0, "=": 0, "(": 0, "sum": 0, "min(1,2)": 0, "boxes": 0, "-": 0,
		"box": 3, "box a": 4, "box = 1;": 4, "box -1 = 1;": 4, "box (1) = 1;": 4, "box box 1": 4,
		"box 1": 5, "box 1 1": 6, "box 1;": 5, "box 1 < 1;": 6, "box 1 (": 6, "box 1 sum": 6,
		"box 1=": 6, "box 1=;": 6, "box 1==": 6, "box 1=a;": 6, "box 1=)": 6,
		"box 1=2": 7, "box 1=2 ": 8, "box 1=2 3": 8, "box 1=2)": 7, "box 1=2,": 7, "box 1=2=": 7, "box 1=2box": 7, "box 1=2 box 2=3;": 8,
		"box 1=2;;": 8, "box 1=2;3": 8, "box 1=2; a": 9, "box 1=2;(": 8, "box 1=2;box": 11, "box 1=2;box 2=": 14, "box 1=2;#\nx": 10, "box 1=(2;": 8, "box 1=box 2;box=": 15, "box 1=box 2=3;": 11,
	} {
		program(t, s, nil, at, api.ErrSyntax)
		program(t, "box 3=4;"+s, nil, at+8, api.ErrSyntax)
	}
}

// tokens that a text may be made of, one of each sort that the grammar tells apart.
func tokens() []lexer.Token {
	l, _, _ := lexer.Lex("box sum min max clamp a 1 + - ( ) , ; = < >")
	return l
}

// held goes over all lists of so many tokens behind a beginning, up to the first one that can't be next, and holds what is told of each to the model.
func held(t *testing.T, start, ahead string, most int) {
	t.Helper()
	if at, e := fault(start, ahead); e != api.OK && at < len(ahead) { // wrong from there on, whatever stands behind
		return
	}
	b, texts := begin(start), []string{}
	begins, _, _ := lexer.Lex(ahead)
	for _, x := range begins {
		b.push(x)
	}
	all := tokens()
	var over func(more int)
	over = func(more int) {
		s := ahead + strings.Join(texts, " ")
		at, e := len(s), api.ErrSyntax
		switch {
		case b.deep():
			e = api.ErrDeep
		case b.whole():
			at, e = 0, api.OK
		}
		whole(t, start, s, at, e)
		if more == 0 {
			return
		}
		for _, x := range all {
			if texts = append(texts, x.Text); b.deep() {
				none(t, start, ahead+strings.Join(texts, " "), len(s)+min(1, len(texts)-1), api.ErrDeep)
			} else if b.push(x) {
				over(more - 1)
				b.pop()
			} else {
				none(t, start, ahead+strings.Join(texts, " "), len(s)+min(1, len(texts)-1), api.ErrSyntax)
				b.pop()
			}
			texts = texts[:len(texts)-1]
		}
	}
	over(most)
}

// none asks for an error.
func none(t *testing.T, start, s string, at int, e api.Errno) {
	t.Helper()
	if start == "program" {
		program(t, s, nil, at, e)
		return
	}
	expr(t, s, api.Expr{}, at, e)
}

// whole asks for an error, or the one tree that a text is, and its limits.
func whole(t *testing.T, start, s string, at int, e api.Errno) {
	t.Helper()
	if e != api.OK {
		none(t, start, s, at, e)
		return
	}
	l, _, _ := lexer.Lex(s)
	if start == "program" {
		want := boxes(l)
		if e := limits(want); e != api.OK {
			none(t, start, s, 0, e)
			return
		}
		program(t, s, want, 0, api.OK)
		return
	}
	want := only(exprs(l))
	if e := limits([]api.Box{{N: 1, E: want}}); e != api.OK {
		none(t, start, s, 0, e)
		return
	}
	expr(t, s, want, 0, api.OK)
}

// P32.1, P32.2: all texts of so many tokens.
func TestAllShort(t *testing.T) {
	held(t, "expr0", "", 7)
	held(t, "program", "", 8)
	held(t, "program", "box 1 = 1;", 7)
	for _, ahead := range []string{"sum(a,", "min(", "clamp(1,", "1-", "-", "((", "-(", "clamp(1,2,min("} {
		held(t, "expr0", ahead, 6)
	}
}

// P32.1, P32.2: all texts of so many tokens behind what is nearly too deep.
func TestAllDeep(t *testing.T) {
	for _, deep := range []int{60, 61, 62, 63, 64} {
		for _, part := range []string{"-", "(", "min(", "max(1,", "clamp(1,2,", "1+("} {
			held(t, "expr0", strings.Repeat(part, deep), min(65-deep, 3)+2)
			held(t, "program", "box 1 = "+strings.Repeat(part, deep), min(65-deep, 2)+1)
		}
		held(t, "expr0", strings.Repeat("-(", deep/2)+strings.Repeat("-", deep%2), min(65-deep, 3)+2)
	}
}

// P32.1, P32.2: terms that are as deep as may be, and deeper.
func TestDeep(t *testing.T) {
	for _, part := range []string{"-", "(", "min(", "min(1,", "max(", "max(2,", "clamp(", "clamp(1,", "clamp(1,2,", "1+(", "-(", "-min("} {
		for _, deep := range []int{1, 2, 30, 31, 32, 33, 34, 61, 62, 63, 64, 65, 66, 200} {
			ahead := strings.Repeat(part, deep)
			for _, last := range []string{"", "1", "1)", "1,", "a", ")", ";", "-", "-1", "(", "(1", "=", ",", "box 5", "-(", "(-", "((", "--"} {
				s := ahead + last
				at, e := fault("expr0", s)
				if e == api.OK {
					told(t, s, api.OK)
					continue
				}
				no(t, s, at, e)
				no(t, "  "+s, at+2, e)
				no(t, "1 - "+s, at+4, e)
				program(t, "box 0 = "+s, nil, at+8, e)
			}
			no(t, ahead+"?", len(ahead), api.ErrWord)
		}
	}
	for deep := 1; deep <= 200; deep++ {
		signs, opened, closed := strings.Repeat("-", deep), strings.Repeat("(", deep), strings.Repeat(")", deep)
		least, most := strings.Repeat("min(", deep), strings.Repeat(",2)", deep)
		for _, s := range []string{signs + "1", opened + "1" + closed, least + "1" + most} {
			if deep < 64 {
				told(t, s, api.OK)
			}
		}
		if deep >= 64 {
			for _, behind := range []string{"", "1", "1" + closed, "1" + most, "a", ")", ";", "-", "min(", "box 0", "1 1"} {
				no(t, signs+behind, 64, api.ErrDeep)
				no(t, opened+behind, 64, api.ErrDeep)
				no(t, least+behind, 256, api.ErrDeep)
			}
		}
	}
	no(t, "1)"+strings.Repeat("(", 99), 1, api.ErrSyntax)
	no(t, strings.Repeat("(", 63)+"1 1"+strings.Repeat("(", 99), 65, api.ErrSyntax)
	no(t, strings.Repeat("(", 63)+"1+("+"1 1", 66, api.ErrDeep)
	no(t, strings.Repeat("-", 32)+strings.Repeat("(", 31)+"1+-", 66, api.ErrDeep)
	no(t, strings.Repeat("(", 64)+"#\n ", 67, api.ErrDeep)
	no(t, strings.Repeat("(", 64)+"#\n 1", 67, api.ErrDeep)
	no(t, strings.Repeat("(", api.MaxProgram-len(before)), 64, api.ErrDeep)
	none(t, "program", "box 1 = "+strings.Repeat("-", api.MaxProgram-8), 72, api.ErrDeep)
	expr(t, strings.Repeat("(", 63)+"box 2"+strings.Repeat(")", 63), ref(2), 0, api.OK)
	no(t, strings.Repeat("(", 63)+"box 2"+strings.Repeat(")", 62), 63+5+62, api.ErrSyntax)
}

// P32.1: of what is by the grammar, at 0: a box's number, how many boxes and Filters, how deep.
func TestLimits(t *testing.T) {
	for n, e := range map[string]api.Errno{"0": api.ErrRange, "000": api.ErrRange, "1": api.OK, "9999": api.OK, "09999": api.OK, "10000": api.ErrRange, nines: api.ErrRange} {
		for _, s := range []string{"box N", "-box N", "1+box N", "box N-1", "(box N)", "min(box N,1)", "max(1,box N)", "clamp(1,2,box N)", "clamp(1,box N,2)", "1+(2-min(1,-box N))"} {
			told(t, strings.ReplaceAll(s, "N", n), e)
		}
		for _, s := range []string{"box N=1;", "box 1=1;box N=1;", "box N=1;box 1=1;", "box 1=box N;", "box 1=1;box 2=3-box N;box 3=1;"} {
			s = strings.ReplaceAll(s, "N", n)
			if _, at, got := parser.Parse(s); at != 0 || got != e {
				t.Error(s, at, int(got))
			}
		}
	}
	for many := range 300 {
		var l []api.Box
		for i := range many {
			l = append(l, api.Box{N: 1 + i%7, E: num(i)})
		}
		s, e := syntax.Print(l), api.OK
		if many > 256 {
			l, e = nil, api.ErrFull
		}
		program(t, s, l, 0, e)
	}
	for many := range 40 {
		s, e := "sum(base"+strings.Repeat(", rate > 5", many)+")", api.OK
		if many > 16 {
			e = api.ErrLong
		}
		for _, around := range []string{"T", "1+T", "-T", "min(T,1)", "clamp(1,2,T)", "(T)-sum(a)", "sum(a,b=1)-T+sum(a)"} {
			told(t, strings.ReplaceAll(around, "T", s), e)
		}
	}
	for many := 1; many <= 130; many++ { // a chain is as deep as it has numbers
		for _, sign := range []string{"+", "-"} {
			s := "1" + strings.Repeat(sign+"1", many-1)
			for around, more := range map[string]int{"T": 0, "(T)": 0, "((T))": 0, "min(T,1)": 1, "max(1,T)": 1, "clamp(1,2,T)": 1, "-(T)": 1, "2-(T)": 1, "(T)-2": 1, "T-2": 1, "-(-(T))": 2} {
				e := api.OK
				if many+more > 64 {
					e = api.ErrDeep
				}
				told(t, strings.ReplaceAll(around, "T", s), e)
			}
		}
	}
}

// P32.1, P32.2: which error is told, where there are several.
func TestOrder(t *testing.T) {
	chain, filters := "1"+strings.Repeat("+1", 64), "sum(a"+strings.Repeat(",b=1", 17)+")"
	faults := []struct {
		s string
		e api.Errno
	}{{"box 0", api.ErrRange}, {"", api.ErrFull}, {filters, api.ErrLong}, {chain, api.ErrDeep}}
	for set := range 16 {
		for _, back := range []bool{false, true} {
			var parts []string
			want, wantExpr, boxes := api.OK, api.OK, 3
			for i, f := range faults {
				if set&(1<<i) == 0 {
					continue
				}
				if f.e == api.ErrFull {
					boxes = 257
				} else {
					parts = append(parts, "("+f.s+")")
					if wantExpr == api.OK {
						wantExpr = f.e
					}
				}
				if want == api.OK {
					want = f.e
				}
			}
			if back {
				slices.Reverse(parts)
			}
			s := strings.Join(append(parts, "1"), "-")
			if _, at, e := parser.Expr(s); at != 0 || e != wantExpr {
				t.Error(set, back, at, int(e))
			}
			one := ""
			for range boxes - 1 {
				one += "box 1=1;"
			}
			for _, s := range []string{one + "box 2=" + s + ";", "box 2=" + s + ";" + one} {
				if l, at, e := parser.Parse(s); at != 0 || e != want || (len(l) > 0) != (e == api.OK) {
					t.Error(set, back, at, int(e))
				}
				if l, at, e := parser.Parse(s + "1"); at != len(s) || e != api.ErrSyntax || len(l) > 0 {
					t.Error(set, back, at, int(e))
				}
				if l, at, e := parser.Parse(s + "1~"); at != len(s)+1 || e != api.ErrWord || len(l) > 0 {
					t.Error(set, back, at, int(e))
				}
			}
		}
	}
}

// P32.1, P32.2: lexer's errors, ahead of all others.
func TestLexer(t *testing.T) {
	for s, at := range map[string]int{"?": 0, "1 ?": 2, ") ?": 2, "1 2 3 A": 6, "Box 1 = 1;": 0, nines + "0": 0, "1+" + nines + "0": 2, "a é": 2, "(((\xff": 3, strings.Repeat("(", 99) + "!": 99, "box 1 = 2; ~": 11, "sum(a, b * 1)": 9, "1.5": 1} {
		program(t, s, nil, at, api.ErrWord)
		expr(t, s, api.Expr{}, at, api.ErrWord)
	}
	long := strings.Repeat(" ", api.MaxProgram-1)
	expr(t, long+"1", num(1), 0, api.OK)
	expr(t, long+" 1", api.Expr{}, 0, api.ErrLong)
	program(t, long+" ", nil, 0, api.OK)
	program(t, long+"  ", nil, 0, api.ErrLong)
	program(t, long+")?", nil, 0, api.ErrLong)
	expr(t, long+")", api.Expr{}, api.MaxProgram-1, api.ErrSyntax)
	expr(t, long+" ", api.Expr{}, api.MaxProgram, api.ErrSyntax)
	expr(t, "1"+strings.Repeat("+1", api.MaxProgram/2-1)+" ", api.Expr{}, 0, api.ErrDeep)
	expr(t, "1"+strings.Repeat("+1", api.MaxProgram/2-1)+"+", api.Expr{}, api.MaxProgram, api.ErrSyntax)
	expr(t, "1"+strings.Repeat("+1", api.MaxProgram/2), api.Expr{}, 0, api.ErrLong)
	expr(t, "sum(a"+strings.Repeat(",b=1", api.MaxProgram/4-2)+")", api.Expr{}, 0, api.ErrLong)
	program(t, strings.Repeat("box 1=1;", api.MaxProgram/8), nil, 0, api.ErrFull)
}

// tree tells an expression that may be, that deep at most.
func tree(c *rand.Rand, deep int) api.Expr {
	if deep <= 1 {
		switch c.Intn(3) {
		case 0:
			return num(c.Int() % 1000000000000000000 >> c.Intn(60))
		case 1:
			return ref(1 + c.Intn(9999)>>c.Intn(12))
		}
		x := total(word(c))
		for range c.Intn(17) >> c.Intn(5) {
			x.Filters = append(x.Filters, api.Filter{Tag: word(c), Sign: "=<>"[c.Intn(3)], N: c.Intn(3000)})
		}
		return x
	}
	kind := api.ExPlus + c.Intn(6)
	kids := make([]api.Expr, map[int]int{api.ExNeg: 1, api.ExClamp: 3}[kind])
	if len(kids) == 0 {
		kids = make([]api.Expr, 2)
	}
	for i := range kids {
		kids[i] = tree(c, c.Intn(min(deep, 4)))
	}
	kids[c.Intn(len(kids))] = tree(c, deep-1)
	return of(kind, kids...)
}

// word tells a name.
func word(c *rand.Rand) string {
	all := []string{"base", "tax", "rate", "a", "boxes", "ma", strings.Repeat("z", 32)}
	return all[c.Intn(len(all))]
}

// around tells a tree's text, in brackets that need not be, with blanks and remarks.
func around(c *rand.Rand, x api.Expr) string {
	blank := func() string { return []string{"", " ", "\t", "\n", "# 1 + ?\n", "\r\n"}[c.Intn(6)] }
	join := func(l ...string) string {
		s := ""
		for _, part := range l {
			s += blank() + part
		}
		return s + blank()
	}
	kid := func(i int) string { return around(c, x.Kids[i]) }
	closed := func(i int) string {
		if k := x.Kids[i].Kind; k == api.ExPlus || k == api.ExMinus {
			return join("(", kid(i), ")")
		}
		return kid(i)
	}
	s := ""
	switch x.Kind {
	case api.ExNum:
		s = join(strings.Repeat("0", c.Intn(2)*(18-len(fmt.Sprint(x.N)))) + fmt.Sprint(x.N))
	case api.ExRef:
		s = join("box "+blank(), fmt.Sprint(x.N))
	case api.ExTotal:
		s = join("sum", "(", x.Field)
		for _, f := range x.Filters {
			s += join(",", f.Tag, string(f.Sign), fmt.Sprint(f.N))
		}
		s += join(")")
	case api.ExPlus:
		s = join(kid(0), "+", closed(1))
	case api.ExMinus:
		s = join(kid(0), "-", closed(1))
	case api.ExNeg:
		s = join("-", closed(0))
	case api.ExClamp:
		s = join("clamp", "(", kid(0), ",", kid(1), ",", kid(2), ")")
	default:
		s = join(map[int]string{api.ExLeast: "min", api.ExMost: "max"}[x.Kind], "(", kid(0), ",", kid(1), ")")
	}
	if c.Intn(5) == 0 {
		s = join("(", s, ")")
	}
	return s
}

// P32.1 to P32.4: programs by chance, printed, and written in other ways.
func TestBack(t *testing.T) {
	c := rand.New(rand.NewSource(32))
	deepest := 0
	for i := range 4000 {
		var l []api.Box
		for range c.Intn(4) {
			x := tree(c, 1+c.Intn(1+i%64))
			deepest = max(deepest, syntax.Deep(x))
			l = append(l, api.Box{N: 1 + c.Intn(9999), E: x})
		}
		s := syntax.Print(l)
		if !syntax.Good(l) || len(s) > api.MaxProgram {
			t.Fatal("no program", short(s))
		}
		program(t, s, l, 0, api.OK)
		written := ""
		for _, b := range l {
			expr(t, syntax.Text(b.E), b.E, 0, api.OK)
			if syntax.Deep(b.E) < 20 { // brackets make it deeper
				s := around(c, b.E)
				expr(t, s, b.E, 0, api.OK)
				written += fmt.Sprintf("box %d = %s;", b.N, s)
			}
		}
		if _, at, e := parser.Parse(written); at != 0 || e != api.OK {
			t.Fatal(written, at, int(e))
		}
	}
	if deepest != 64 {
		t.Error("deepest", deepest)
	}
}

// P32.3: trees that are as deep as may be, through each Kid of each kind and of each two kinds by turns.
func TestBackDeepest(t *testing.T) {
	many := map[int]int{api.ExPlus: 2, api.ExMinus: 2, api.ExLeast: 2, api.ExMost: 2, api.ExNeg: 1, api.ExClamp: 3}
	for kind, n := range many {
		for at := range n {
			for other, m := range many {
				for otherAt := range m {
					for _, x := range []api.Expr{num(1), total("a"), ref(5)} {
						for deep := 2; deep <= 64; deep++ {
							k, i := kind, at
							if deep%2 == 0 {
								k, i = other, otherAt
							}
							kids := []api.Expr{num(1), num(2), num(3)}[:many[k]]
							kids[i] = x
							x = of(k, kids...)
						}
						if syntax.Deep(x) != 64 || !syntax.GoodExpr(x) {
							t.Fatal("no tree")
						}
						expr(t, syntax.Text(x), x, 0, api.OK)
						program(t, syntax.Print([]api.Box{{N: 1, E: x}}), []api.Box{{N: 1, E: x}}, 0, api.OK)
					}
				}
			}
		}
	}
}

// P32.3: programs whose text is as long as may be, and longer.
func TestBackLong(t *testing.T) {
	l := make([]api.Box, 256)
	for i := range l {
		l[i] = api.Box{N: 1, E: num(100000000000000)}
		for range 11 {
			l[i].E = of(api.ExPlus, l[i].E, num(999999999999999999))
		}
	}
	s := syntax.Print(l)
	if len(s) != api.MaxProgram {
		t.Fatal(len(s))
	}
	program(t, s, l, 0, api.OK)
	program(t, s+" ", nil, 0, api.ErrLong)
	program(t, s[:len(s)-1]+"?", nil, len(s)-1, api.ErrWord)
	l[100].N = 10
	if !syntax.Good(l) {
		t.Error("good")
	}
	program(t, syntax.Print(l), nil, 0, api.ErrLong)
}

// spoilt tells a text with some of its tokens lost, doubled, changed, or put elsewhere.
func spoilt(c *rand.Rand, s string) string {
	l, _, _ := lexer.Lex(s)
	texts := strings.Fields(lexer.Show(l))
	for range c.Intn(3) {
		if len(texts) == 0 {
			break
		}
		i, other := c.Intn(len(texts)), tokens()[c.Intn(16)].Text
		switch c.Intn(6) {
		case 0:
			texts = slices.Delete(texts, i, i+1)
		case 1:
			texts = slices.Insert(texts, i, texts[i])
		case 2:
			texts[i] = other
		case 3:
			texts = slices.Insert(texts, i, other)
		case 4:
			j := c.Intn(len(texts))
			texts[i], texts[j] = texts[j], texts[i]
		case 5:
			texts = texts[:i]
		}
	}
	return strings.Join(texts, " ") + strings.Repeat(" ", c.Intn(3))
}

// P32.1, P32.2: programs by chance, spoilt, against the model.
func TestSpoilt(t *testing.T) {
	c := rand.New(rand.NewSource(1))
	seen := map[api.Errno]int{}
	for i := range 6000 {
		x := tree(c, 1+c.Intn(1+i%64))
		s := syntax.Text(x)
		if i%3 == 0 {
			deep := c.Intn(3) * 30
			s = strings.Repeat("(", deep) + s + strings.Repeat(")", deep)
		}
		start := "expr0"
		if i%2 == 0 {
			start, s = "program", fmt.Sprintf("box %d = %s; box 1 = 2;", c.Intn(99), s)
		}
		s = spoilt(c, s)
		at, e := fault(start, s)
		seen[e]++
		if e != api.OK {
			none(t, start, s, at, e)
			continue
		}
		if l, at, e := parser.Parse(s); start == "program" && (at != 0 || e != api.OK && e != api.ErrRange && e != api.ErrDeep || !syntax.Good(l) || e == api.OK && len(l) == 0 && strings.TrimSpace(s) != "") {
			t.Fatal(s, at, int(e))
		}
		if _, at, e := parser.Expr(s); start != "program" && (at != 0 || e != api.OK && e != api.ErrRange && e != api.ErrDeep) {
			t.Fatal(s, at, int(e))
		}
	}
	for _, e := range []api.Errno{api.OK, api.ErrSyntax, api.ErrDeep} {
		if seen[e] < 300 {
			t.Error(seen)
		}
	}
}

// Rule 4: what is told is the caller's own.
func TestOwn(t *testing.T) {
	const s = "box 1 = sum(a, b = 1) - 2; box 2 = clamp(1, 2, 3);"
	l, _, _ := parser.Parse(s)
	was := syntax.Print(l)
	l[0].E.Kids[0].Filters[0].N = 5
	l[1].E.Kids = append(l[1].E.Kids[:1], num(7))
	clear(l[0].E.Kids)
	clear(l)
	if again, _, _ := parser.Parse(s); syntax.Print(again) != was || was != "box 1 = sum(a, b = 1) - 2;\nbox 2 = clamp(1, 2, 3);\n" {
		t.Error(was)
	}
}
