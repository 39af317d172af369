package parser_test

import (
	"fmt"
	"slices"
	"strings"

	"octroi/api"
	"octroi/lexer"
)

// The model: the document's grammar as rules, of which all that could have been begun are kept token by token, so that it tells what can be next without a choice having been made (Earley's way). Behind expr, term and prim stands how deep they are; a term that is MaxDepth deep has no rule.

const anyDepth = `
expr = term
expr = expr "+" term
expr = expr "-" term
term = "-" deeper
term = prim
prim = INT
prim = "box" INT
prim = "sum" "(" NAME filters ")"
prim = "min" "(" inner "," inner ")"
prim = "max" "(" inner "," inner ")"
prim = "clamp" "(" inner "," inner "," inner ")"
prim = "(" inner ")"`

const noDepth = `
program =
program = program "box" INT "=" expr0 ";"
filters =
filters = filters "," NAME sign INT
sign = "="
sign = "<"
sign = ">"`

const tooDeep = "term64"

type rule struct {
	head  string
	parts []string
}

// item is a rule, how much of it is there, and the token from which on.
type item struct{ rule, gone, from int }

type grammar struct {
	rules  []rule
	byHead map[string][]int
}

var octroi = madeGrammar()

func madeGrammar() grammar {
	text := noDepth
	for deep := range 64 {
		for _, line := range strings.Split(anyDepth, "\n") {
			words := strings.Fields(line)
			for i, w := range words {
				switch w {
				case "expr", "term", "prim":
					words[i] = fmt.Sprint(w, deep)
				case "deeper":
					words[i] = fmt.Sprint("term", deep+1)
				case "inner":
					words[i] = fmt.Sprint("expr", deep+1)
				}
			}
			text += "\n" + strings.Join(words, " ")
		}
	}
	g := grammar{byHead: map[string][]int{}}
	add := func(head string, parts ...string) {
		g.byHead[head] = append(g.byHead[head], len(g.rules))
		g.rules = append(g.rules, rule{head, parts})
	}
	for _, line := range strings.Split(text, "\n") {
		if words := strings.Fields(line); len(words) > 0 {
			add(words[0], words[2:]...)
		}
	}
	add("expr64", tooDeep) // a term begins there, whatever it is
	return g
}

// begun has, of each number of tokens, all that could have been begun.
type begun struct {
	start string
	sets  [][]item
}

func begin(start string) *begun {
	b := &begun{start: start, sets: [][]item{nil}}
	b.want(start)
	b.fill()
	return b
}

// next tells the part that an item waits for; nothing, if it is whole.
func (b *begun) next(x item) string {
	if parts := octroi.rules[x.rule].parts; x.gone < len(parts) {
		return parts[x.gone]
	}
	return ""
}

func (b *begun) put(x item) {
	last := len(b.sets) - 1
	if !slices.Contains(b.sets[last], x) {
		b.sets[last] = append(b.sets[last], x)
	}
}

func (b *begun) want(head string) {
	for _, r := range octroi.byHead[head] {
		b.put(item{rule: r, from: len(b.sets) - 1})
	}
}

// fill gathers all that follows from what the last set has.
func (b *begun) fill() {
	last := len(b.sets) - 1
	for i := 0; i < len(b.sets[last]); i++ {
		x := b.sets[last][i]
		part := b.next(x)
		b.want(part)
		if part == "program" || part == "filters" { // they may be nothing
			b.put(item{x.rule, x.gone + 1, x.from})
		}
		if part == "" {
			for _, y := range b.sets[x.from] {
				if b.next(y) == octroi.rules[x.rule].head {
					b.put(item{y.rule, y.gone + 1, y.from})
				}
			}
		}
	}
}

// deep tells whether a term begins here that is too deep.
func (b *begun) deep() bool {
	return slices.ContainsFunc(b.sets[len(b.sets)-1], func(x item) bool { return b.next(x) == tooDeep })
}

// whole tells whether all tokens are one whole.
func (b *begun) whole() bool {
	return slices.ContainsFunc(b.sets[len(b.sets)-1], func(x item) bool {
		return x.from == 0 && b.next(x) == "" && octroi.rules[x.rule].head == b.start
	})
}

// push goes behind a token; false, if it can't be next.
func (b *begun) push(t lexer.Token) bool {
	is := []string{`"` + t.Text + `"`}
	switch {
	case t.Kind == lexer.Int:
		is = []string{"INT"}
	case t.Kind == lexer.Word && len(t.Text) <= 32 && !slices.Contains(strings.Fields("box sum min max clamp"), t.Text):
		is = []string{"NAME"}
	}
	was := b.sets[len(b.sets)-1]
	b.sets = append(b.sets, nil)
	for _, x := range was {
		if slices.Contains(is, b.next(x)) {
			b.put(item{x.rule, x.gone + 1, x.from})
		}
	}
	b.fill()
	return len(b.sets[len(b.sets)-1]) > 0
}

// pop goes back ahead of a token.
func (b *begun) pop() { b.sets = b.sets[:len(b.sets)-1] }

// fault tells where, and by what, a text is no program, or no expression, by the grammar.
func fault(start, s string) (at int, e api.Errno) {
	tokens, at, e := lexer.Lex(s)
	if e != api.OK {
		return at, e
	}
	b := begin(start)
	for _, t := range tokens {
		if b.deep() {
			return t.At, api.ErrDeep
		}
		if !b.push(t) {
			return t.At, api.ErrSyntax
		}
	}
	switch {
	case b.deep():
		return len(s), api.ErrDeep
	case !b.whole():
		return len(s), api.ErrSyntax
	}
	return 0, api.OK
}

// limits tells what is wrong with a program that is by the grammar; a box that has no number of its own has the number 1 here.
func limits(l []api.Box) api.Errno {
	var noBox, tooMany, tooDeep bool
	var over func(e api.Expr, deep int)
	over = func(e api.Expr, deep int) {
		noBox = noBox || e.Kind == api.ExRef && (e.N < 1 || e.N > 9999)
		tooMany = tooMany || len(e.Filters) > 16
		tooDeep = tooDeep || deep > 64
		for _, k := range e.Kids {
			over(k, deep+1)
		}
	}
	for _, b := range l {
		noBox = noBox || b.N < 1 || b.N > 9999
		over(b.E, 1)
	}
	switch {
	case noBox:
		return api.ErrRange
	case len(l) > 256:
		return api.ErrFull
	case tooMany:
		return api.ErrLong
	case tooDeep:
		return api.ErrDeep
	}
	return api.OK
}

// exprs, terms and prims tell all trees that tokens are, each by the grammar's words alone: by trying each place at which they could be parted.

func exprs(l []lexer.Token) []api.Expr {
	trees := terms(l)
	for i, t := range l {
		kind := map[string]int{"+": api.ExPlus, "-": api.ExMinus}[t.Text]
		if kind == 0 {
			continue
		}
		for _, b := range terms(l[i+1:]) {
			for _, a := range exprs(l[:i]) {
				trees = append(trees, of(kind, a, b))
			}
		}
	}
	return trees
}

func terms(l []lexer.Token) []api.Expr {
	trees := prims(l)
	if len(l) > 0 && l[0].Text == "-" {
		for _, a := range terms(l[1:]) {
			trees = append(trees, of(api.ExNeg, a))
		}
	}
	return trees
}

func prims(l []lexer.Token) []api.Expr {
	last := len(l) - 1
	switch {
	case len(l) == 1 && l[0].Kind == lexer.Int:
		return []api.Expr{num(l[0].N)}
	case len(l) == 2 && l[0].Text == "box" && l[1].Kind == lexer.Int:
		return []api.Expr{ref(l[1].N)}
	case len(l) > 2 && l[0].Text == "(" && l[last].Text == ")":
		return exprs(l[1:last])
	case len(l) < 4 || l[1].Text != "(" || l[last].Text != ")":
		return nil
	case l[0].Text == "sum":
		return totals(l[2:last])
	}
	var trees []api.Expr
	kind := map[string]int{"min": api.ExLeast, "max": api.ExMost, "clamp": api.ExClamp}[l[0].Text]
	for _, kids := range lists(l[2:last]) {
		if kind == api.ExClamp && len(kids) == 3 || kind > 0 && kind != api.ExClamp && len(kids) == 2 {
			trees = append(trees, of(kind, kids...))
		}
	}
	return trees
}

// lists tells all lists of expressions, with commas between them, that tokens are.
func lists(l []lexer.Token) [][]api.Expr {
	var all [][]api.Expr
	for _, e := range exprs(l) {
		all = append(all, []api.Expr{e})
	}
	for i, t := range l {
		if t.Text != "," {
			continue
		}
		for _, e := range exprs(l[i+1:]) {
			for _, ahead := range lists(l[:i]) {
				all = append(all, append(slices.Clone(ahead), e))
			}
		}
	}
	return all
}

func totals(l []lexer.Token) []api.Expr {
	e := total(l[0].Text)
	for f := range slices.Chunk(l[1:], 4) {
		if len(f) != 4 || f[0].Text != "," || f[1].Kind != lexer.Word || !strings.Contains("=<>", f[2].Text) || f[3].Kind != lexer.Int {
			return nil
		}
		e.Filters = append(e.Filters, api.Filter{Tag: f[1].Text, Sign: f[2].Text[0], N: f[3].N})
	}
	return []api.Expr{e}
}

// boxes tells the program that tokens are, which the grammar has.
func boxes(l []lexer.Token) []api.Box {
	var all []api.Box
	for len(l) > 0 {
		end := slices.IndexFunc(l, func(t lexer.Token) bool { return t.Text == ";" })
		all = append(all, api.Box{N: l[1].N, E: only(exprs(l[3:end]))})
		l = l[end+1:]
	}
	return all
}

// only tells the one tree that there is: were there more, the grammar would not say which.
func only(trees []api.Expr) api.Expr {
	if len(trees) != 1 {
		panic(fmt.Sprint("trees: ", trees))
	}
	return trees[0]
}
