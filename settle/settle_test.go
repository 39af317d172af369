package settle_test

import (
	"fmt"
	"math"
	"math/big"
	"math/rand"
	"slices"
	"testing"

	"octroi/api"
	"octroi/ledger"
	"octroi/settle"
)

const most = api.MaxMoney

var (
	edges   = []int{0, 1, -1, 2, -2, 190, -190, most, most - 1, 1 - most, -most, most / 2, -most / 2, most/2 + 1, -most/2 - 1}
	wrong   = []int{most + 1, -most - 1, math.MaxInt, math.MinInt, math.MinInt + 1}
	numbers = slices.Concat(edges, wrong)
)

func number(n int) *big.Int { return big.NewInt(int64(n)) }

// isAmount tells whether a number is an amount.
func isAmount(n *big.Int) bool { return n.CmpAbs(number(1<<62)) <= 0 }

// ofModel is Of, word for word as the document says it.
func ofModel(out, in, before int) (settle.Settlement, api.Errno) {
	if !isAmount(number(out)) || !isAmount(number(in)) || !isAmount(number(before)) || before < 0 {
		return settle.Settlement{}, api.ErrArg
	}
	left := new(big.Int).Sub(number(out), number(in))
	left.Sub(left, number(before))
	if !isAmount(left) {
		return settle.Settlement{}, api.ErrOver
	}
	s := settle.Settlement{Out: out, In: in, Before: before}
	switch left.Sign() {
	case 1:
		s.Due = int(left.Int64())
	case -1:
		s.After = int(left.Abs(left).Int64())
	}
	return s, api.OK
}

// postsModel is Posts of a settlement that is one.
func postsModel(s settle.Settlement) []api.Post {
	var l []api.Post
	for _, p := range []api.Post{
		{Account: api.AccOut, Amount: s.Out}, {Account: api.AccIn, Amount: -s.In}, {Account: api.AccSettle, Amount: -s.Due}, {Account: api.AccCarry, Amount: s.After - s.Before},
	} {
		if p.Amount != 0 {
			l = append(l, p)
		}
	}
	return l
}

// holdOf holds Of, and Good and Posts of what it tells, against the model.
func holdOf(t *testing.T, s ledger.Sum, before int) {
	t.Helper()
	got, e := settle.Of(s, before)
	want, x := ofModel(s.Out, s.In, before)
	if got != want || e != x {
		t.Fatal("Of", s, before, got, int(e), want, int(x))
	}
	if e != api.OK {
		return
	}
	if !settle.Good(got) || got.Due < 0 || got.After < 0 || got.Due > 0 && got.After > 0 {
		t.Fatal("not good:", got)
	}
	posts, e := settle.Posts(got)
	if e != api.OK || !slices.Equal(posts, postsModel(got)) {
		t.Fatal("Posts", got, posts, int(e))
	}
	sum := new(big.Int)
	for _, p := range posts {
		sum.Add(sum, number(p.Amount))
		if p.Amount == 0 || p.State != "" || !isAmount(number(p.Amount)) {
			t.Fatal("Posts", got, p)
		}
	}
	if sum.Sign() != 0 {
		t.Fatal("the postings are not 0 together:", got, posts)
	}
}

// P38.1: the document's example.
func TestOfExample(t *testing.T) {
	first, e := settle.Of(ledger.Sum{Out: 190, In: 300}, 0)
	if e != api.OK || first != (settle.Settlement{Out: 190, In: 300, After: 110}) {
		t.Error(first, int(e))
	}
	second, e := settle.Of(ledger.Sum{Out: 200}, first.After)
	if e != api.OK || second != (settle.Settlement{Out: 200, Before: 110, Due: 90}) {
		t.Error(second, int(e))
	}
}

// P38.1: what is paid, and what is carried on.
func TestOf(t *testing.T) {
	for _, c := range []struct{ out, in, before, due, after int }{
		{0, 0, 0, 0, 0}, {190, 0, 0, 190, 0}, {0, 190, 0, 0, 190}, {190, 190, 0, 0, 0}, {190, 0, 190, 0, 0}, {190, 100, 90, 0, 0}, {190, 100, 89, 1, 0}, {190, 100, 91, 0, 1}, {0, 0, 7, 0, 7},
		{-5, 0, 0, 0, 5}, {0, -5, 0, 5, 0}, {-5, -5, 3, 0, 3}, {most, 0, 0, most, 0}, {-most, 0, 0, 0, most}, {0, most, 0, 0, most}, {0, -most, 0, most, 0}, {0, 0, most, 0, most},
		{most, most, most, 0, most}, {most, -most, most, most, 0}, {most, 0, most, 0, 0}, {-most, -most, most, 0, most}, {most, -1, 1, most, 0}, {-most, -1, 1, 0, most},
	} {
		got, e := settle.Of(ledger.Sum{Out: c.out, In: c.in}, c.before)
		if e != api.OK || got != (settle.Settlement{Out: c.out, In: c.in, Before: c.before, Due: c.due, After: c.after}) {
			t.Error(c, got, int(e))
		}
	}
}

// P38.1: the errors, each ahead of those behind it: what is no amount, or carried below 0; what is left.
func TestOfErrors(t *testing.T) {
	for _, c := range []struct {
		out, in, before int
		want            api.Errno
	}{
		{most + 1, 0, 0, api.ErrArg}, {-most - 1, 0, 0, api.ErrArg}, {0, most + 1, 0, api.ErrArg}, {0, -most - 1, 0, api.ErrArg}, {0, 0, most + 1, api.ErrArg}, {0, 0, -1, api.ErrArg}, {0, 0, -most, api.ErrArg},
		{0, 0, -most - 1, api.ErrArg}, {math.MinInt, 0, 0, api.ErrArg}, {0, math.MinInt, 0, api.ErrArg}, {0, 0, math.MinInt, api.ErrArg}, {math.MaxInt, 0, 0, api.ErrArg}, {0, math.MaxInt, 0, api.ErrArg}, {0, 0, math.MaxInt, api.ErrArg},
		{most + 1, 1, 0, api.ErrArg}, {most + 1, most + 1, 0, api.ErrArg}, {most + 1, 0, 1, api.ErrArg}, {math.MinInt, math.MinInt, 0, api.ErrArg}, {0, math.MinInt, math.MaxInt, api.ErrArg}, {most, -most, -1, api.ErrArg},
		{most, -1, 0, api.ErrOver}, {most, -most, 0, api.ErrOver}, {-most, 1, 0, api.ErrOver}, {-most, most, 0, api.ErrOver}, {-most, 0, 1, api.ErrOver}, {-most, most, most, api.ErrOver}, {0, most, 1, api.ErrOver},
		{most, -most, most - 1, api.ErrOver}, {-most, -1, 2, api.ErrOver}, {most, -1, 1, api.OK},
	} {
		got, e := settle.Of(ledger.Sum{Out: c.out, In: c.in}, c.before)
		if e != c.want || e != api.OK && got != (settle.Settlement{}) {
			t.Error(c, got, int(e))
		}
	}
}

// P38.1: what is owed to other member states is nothing here, whatever it is.
func TestOfOss(t *testing.T) {
	for _, oss := range numbers {
		if got, e := settle.Of(ledger.Sum{Out: 190, In: 300, Oss: oss}, 10); e != api.OK || got != (settle.Settlement{Out: 190, In: 300, Before: 10, After: 120}) {
			t.Error(oss, got, int(e))
		}
	}
}

// P38.1, P38.2, P38.4: Of, Good and Posts are the model's, of all edges against each other.
func TestOfEdges(t *testing.T) {
	for _, out := range numbers {
		for _, in := range numbers {
			for _, before := range numbers {
				holdOf(t, ledger.Sum{Out: out, In: in, Oss: out}, before)
			}
		}
	}
}

// P38.1, P38.2, P38.4: likewise by chance, of small numbers, and in the whole range.
func TestOfByChance(t *testing.T) {
	chance := rand.New(rand.NewSource(381))
	for range 20000 {
		top := []int{3, 1000, most / 2, most, math.MaxInt - 1}[chance.Intn(5)]
		n := func() int { return (1 - 2*chance.Intn(2)) * int(chance.Int63n(int64(top)+1)) }
		before := n()
		if chance.Intn(4) > 0 {
			before = max(before, -before)
		}
		holdOf(t, ledger.Sum{Out: n(), In: n()}, before)
	}
}

// P38.1: Good tells true of what Of tells, and of nothing else: all edges in all fields.
func TestGoodEdges(t *testing.T) {
	some := []int{0, 1, -1, 2, most, most - 1, -most, most + 1, -most - 1, math.MaxInt, math.MinInt}
	good := 0
	for _, out := range some {
		for _, in := range some {
			for _, before := range some {
				want, e := ofModel(out, in, before)
				for _, due := range some {
					for _, after := range some {
						s := settle.Settlement{Out: out, In: in, Before: before, Due: due, After: after}
						is := e == api.OK && s == want
						if settle.Good(s) != is {
							t.Fatal(s, is)
						}
						if posts, e := settle.Posts(s); (e == api.OK) != is || !is && (e != api.ErrArg || len(posts) > 0) {
							t.Fatal(s, posts, int(e))
						}
						if is {
							good++
						}
					}
				}
			}
		}
	}
	if good < 100 {
		t.Error(good)
	}
}

// P38.1: what is good is no more so, if one of its fields is another one.
func TestGoodChanged(t *testing.T) {
	chance := rand.New(rand.NewSource(382))
	for range 5000 {
		s, e := settle.Of(ledger.Sum{Out: chance.Intn(1000) - 500, In: chance.Intn(1000) - 500}, chance.Intn(1000))
		if e != api.OK || !settle.Good(s) {
			t.Fatal(s, int(e))
		}
		for i, change := range []func(s *settle.Settlement, by int){
			func(s *settle.Settlement, by int) { s.Out += by }, func(s *settle.Settlement, by int) { s.In += by }, func(s *settle.Settlement, by int) { s.Before += by },
			func(s *settle.Settlement, by int) { s.Due += by }, func(s *settle.Settlement, by int) { s.After += by }, func(s *settle.Settlement, by int) { s.Due, s.After = s.Due+by, s.After+by },
		} {
			c := s
			change(&c, (1+chance.Intn(9))*(1-2*chance.Intn(2)))
			if posts, e := settle.Posts(c); settle.Good(c) || e != api.ErrArg || len(posts) > 0 {
				t.Fatal(i, c, posts, int(e))
			}
		}
	}
}

// P38.2: the postings of settlements, in their order; those of 0 are left out.
func TestPosts(t *testing.T) {
	const out, in, paid, carry = api.AccOut, api.AccIn, api.AccSettle, api.AccCarry
	for _, c := range []struct {
		s    settle.Settlement
		want []api.Post
	}{
		{settle.Settlement{}, nil},
		{settle.Settlement{Out: 190, Due: 190}, []api.Post{{Account: out, Amount: 190}, {Account: paid, Amount: -190}}},
		{settle.Settlement{In: 190, After: 190}, []api.Post{{Account: in, Amount: -190}, {Account: carry, Amount: 190}}},
		{settle.Settlement{Out: 190, In: 300, After: 110}, []api.Post{{Account: out, Amount: 190}, {Account: in, Amount: -300}, {Account: carry, Amount: 110}}},
		{settle.Settlement{Out: 200, Before: 110, Due: 90}, []api.Post{{Account: out, Amount: 200}, {Account: paid, Amount: -90}, {Account: carry, Amount: -110}}},
		{settle.Settlement{Out: 500, In: 200, Before: 110, Due: 190}, []api.Post{{Account: out, Amount: 500}, {Account: in, Amount: -200}, {Account: paid, Amount: -190}, {Account: carry, Amount: -110}}},
		{settle.Settlement{Out: 7, In: 7, Before: 5, After: 5}, []api.Post{{Account: out, Amount: 7}, {Account: in, Amount: -7}}},
		{settle.Settlement{Before: 5, After: 5}, nil},
		{settle.Settlement{In: 3, Before: 5, After: 8}, []api.Post{{Account: in, Amount: -3}, {Account: carry, Amount: 3}}},
		{settle.Settlement{Out: -4, In: -9, Due: 5}, []api.Post{{Account: out, Amount: -4}, {Account: in, Amount: 9}, {Account: paid, Amount: -5}}},
		{settle.Settlement{Out: most, In: -most, Before: most, Due: most}, []api.Post{{Account: out, Amount: most}, {Account: in, Amount: most}, {Account: paid, Amount: -most}, {Account: carry, Amount: -most}}},
		{settle.Settlement{Out: -most, After: most}, []api.Post{{Account: out, Amount: -most}, {Account: carry, Amount: most}}},
	} {
		if got, e := settle.Posts(c.s); e != api.OK || !slices.Equal(got, c.want) {
			t.Error(c.s, got, int(e))
		}
	}
}

// P38.2: what is no settlement has no postings.
func TestPostsErrors(t *testing.T) {
	for _, s := range []settle.Settlement{
		{Out: 190}, {In: 300}, {Before: 5}, {Due: 1}, {After: 1}, {Due: -1}, {After: -1}, {Due: 5, After: 5}, {Out: 190, Due: 189}, {Out: 190, Due: 190, After: 1}, {Out: 190, Due: 191, After: 1}, {Out: -5, Due: -5},
		{In: 5, Due: -5}, {Before: -5, Due: 5}, {Before: -5, After: -5}, {Out: most + 1, Due: most + 1}, {In: most + 1, After: most + 1}, {Before: most + 1, After: most + 1}, {Out: most + 1, In: 1, Due: most}, {Out: most, In: -1, Due: most + 1},
		{Out: math.MinInt, After: math.MinInt}, {In: math.MinInt, Due: math.MinInt}, {Before: math.MinInt, After: math.MinInt}, {Before: math.MinInt, Due: math.MinInt},
	} {
		if got, e := settle.Posts(s); e != api.ErrArg || len(got) > 0 || settle.Good(s) {
			t.Error(s, got, int(e))
		}
	}
}

// P38.2: what the settlement of a book's period posts clears what its rows posted on AccOut and AccIn.
func TestPostsClear(t *testing.T) {
	chance := rand.New(rand.NewSource(383))
	p := api.Period{Kind: api.Quarter, Year: 2022, Index: 1}
	for range 200 {
		b := ledger.New()
		for range chance.Intn(40) {
			tax, isSale := chance.Intn(2000)-1000, chance.Intn(2) == 0
			r := api.Row{Period: p, Origin: p, Sale: isSale, Treat: []int{api.Home, api.Margin, api.Below}[chance.Intn(3)], Base: chance.Intn(1000), Tax: tax}
			if !isSale {
				r.Treat, r.Deduct = []int{api.Input, api.Acquisition, api.Received, api.Import, api.Adjusted}[chance.Intn(5)], tax/2
			}
			if e := b.Add([]api.Row{r}); e != api.OK {
				t.Fatal(r, int(e))
			}
		}
		s, e := settle.Of(b.Sum(p), chance.Intn(500))
		posts, x := settle.Posts(s)
		if e != api.OK || x != api.OK {
			t.Fatal(int(e), int(x))
		}
		out, in := b.Account(api.AccOut), b.Account(api.AccIn)
		for _, post := range posts {
			switch post.Account {
			case api.AccOut:
				out += post.Amount
			case api.AccIn:
				in += post.Amount
			}
		}
		if out != 0 || in != 0 {
			t.Fatal("not cleared:", s, posts, out, in)
		}
	}
}

// P38.3: the lines of a settlement, good or not.
func TestText(t *testing.T) {
	for _, c := range []struct {
		s    settle.Settlement
		want string
	}{
		{settle.Settlement{}, "out 0\nin 0\nbefore 0\ndue 0\nafter 0\n"}, {settle.Settlement{Out: 190, In: 300, After: 110}, "out 190\nin 300\nbefore 0\ndue 0\nafter 110\n"},
		{settle.Settlement{Out: 1, In: 20, Before: 300, Due: 4000, After: 50000}, "out 1\nin 20\nbefore 300\ndue 4000\nafter 50000\n"},
		{settle.Settlement{Out: -1, In: -20, Before: -300, Due: -4000, After: -50000}, "out -1\nin -20\nbefore -300\ndue -4000\nafter -50000\n"},
		{settle.Settlement{Out: math.MinInt, In: math.MaxInt, Before: most, Due: -most, After: most + 1}, "out -9223372036854775808\nin 9223372036854775807\nbefore 4611686018427387904\ndue -4611686018427387904\nafter 4611686018427387905\n"},
	} {
		if got := settle.Text(c.s); got != c.want {
			t.Errorf("%q", got)
		}
	}
	chance := rand.New(rand.NewSource(384))
	n := func() int { return numbers[chance.Intn(len(numbers))] }
	for range 1000 {
		s := settle.Settlement{Out: n(), In: n(), Before: n(), Due: n(), After: n()}
		if got, want := settle.Text(s), fmt.Sprintf("out %d\nin %d\nbefore %d\ndue %d\nafter %d\n", s.Out, s.In, s.Before, s.Due, s.After); got != want {
			t.Fatalf("%q, not %q", got, want)
		}
	}
}

// chainModel is Chain.
func chainModel(l []ledger.Sum, before int) ([]settle.Settlement, api.Errno) {
	var chain []settle.Settlement
	for i := range l {
		if i > 0 {
			before = chain[i-1].After
		}
		s, e := ofModel(l[i].Out, l[i].In, before)
		if e != api.OK {
			return nil, e
		}
		chain = append(chain, s)
	}
	return chain, api.OK
}

// P38.3: the document's example, and what is carried over periods.
func TestChain(t *testing.T) {
	for _, c := range []struct {
		l      []ledger.Sum
		before int
		want   []settle.Settlement
	}{
		{nil, 0, nil}, {[]ledger.Sum{}, 110, nil},
		{[]ledger.Sum{{Out: 190, In: 300}, {Out: 200}}, 0, []settle.Settlement{{Out: 190, In: 300, After: 110}, {Out: 200, Before: 110, Due: 90}}},
		{[]ledger.Sum{{}, {}}, 5, []settle.Settlement{{Before: 5, After: 5}, {Before: 5, After: 5}}},
		{[]ledger.Sum{{Out: 9, Oss: 1}, {Out: 9, Oss: math.MinInt}, {In: 4}, {In: 4, Out: 5}}, 12, []settle.Settlement{{Out: 9, Before: 12, After: 3}, {Out: 9, Before: 3, Due: 6}, {In: 4, After: 4}, {Out: 5, In: 4, Before: 4, After: 3}}},
		{[]ledger.Sum{{In: most}, {Out: most}, {Out: most}}, 0, []settle.Settlement{{In: most, After: most}, {Out: most, Before: most}, {Out: most, Due: most}}},
	} {
		if got, e := settle.Chain(c.l, c.before); e != api.OK || !slices.Equal(got, c.want) {
			t.Error(c, got, int(e))
		}
	}
}

// P38.3: the first error is told, whatever stands behind it; of no sums there is none.
func TestChainErrors(t *testing.T) {
	good, none, over := ledger.Sum{Out: 190}, ledger.Sum{Out: most + 1}, ledger.Sum{Out: most, In: -most}
	for i, c := range []struct {
		l      []ledger.Sum
		before int
		want   api.Errno
	}{
		{[]ledger.Sum{none}, 0, api.ErrArg}, {[]ledger.Sum{over}, 0, api.ErrOver}, {[]ledger.Sum{good, none, over}, 0, api.ErrArg}, {[]ledger.Sum{good, over, none}, 0, api.ErrOver},
		{[]ledger.Sum{good, good, over}, 0, api.ErrOver}, {[]ledger.Sum{good, good, {In: math.MinInt}}, 0, api.ErrArg}, {[]ledger.Sum{good, over}, -1, api.ErrArg}, {[]ledger.Sum{good}, -1, api.ErrArg},
		{[]ledger.Sum{good}, most + 1, api.ErrArg}, {[]ledger.Sum{good}, math.MinInt, api.ErrArg}, {[]ledger.Sum{{In: most}, {In: 1}}, 0, api.ErrOver}, {[]ledger.Sum{{In: 1}}, most, api.ErrOver},
		{[]ledger.Sum{over}, most, api.OK}, {[]ledger.Sum{{In: most}, over}, 0, api.OK}, {nil, -1, api.OK}, {nil, math.MinInt, api.OK},
	} {
		got, e := settle.Chain(c.l, c.before)
		if e != c.want || e != api.OK && len(got) > 0 || e == api.OK && len(got) != len(c.l) {
			t.Error(i, got, int(e))
		}
	}
}

// P38.3, P38.5: Chain is the model's, by chance; all that is paid, less what is carried at last, is all Out less all In less what was carried at first.
func TestChainByChance(t *testing.T) {
	chance := rand.New(rand.NewSource(385))
	for range 5000 {
		top := []int{3, 1000, most / 16, most}[chance.Intn(4)]
		n := func() int { return (1 - 2*chance.Intn(2)) * int(chance.Int63n(int64(top)+1)) }
		before := n()
		if chance.Intn(8) > 0 {
			before = max(before, -before)
		}
		l := make([]ledger.Sum, chance.Intn(12))
		for i := range l {
			l[i] = ledger.Sum{Out: n(), In: n(), Oss: n()}
		}
		got, e := settle.Chain(l, before)
		if want, x := chainModel(l, before); e != x || !slices.Equal(got, want) {
			t.Fatal(l, before, got, int(e), want, int(x))
		}
		if e != api.OK || len(l) == 0 {
			continue
		}
		paid, all := number(-got[len(got)-1].After), number(-before)
		for i, s := range got {
			paid.Add(paid, number(s.Due))
			all.Add(all, new(big.Int).Sub(number(l[i].Out), number(l[i].In)))
		}
		if paid.Cmp(all) != 0 {
			t.Fatal("not all is paid or carried:", got, paid, all)
		}
	}
}

// P38.3: sums that are handed in stay as they were, and what lies behind them in memory is nothing.
func TestNothingChanges(t *testing.T) {
	l := []ledger.Sum{{Out: 1, In: 2, Oss: 3}, {Out: 4, In: 5, Oss: 6}, {Out: math.MinInt}}
	kept := slices.Clone(l)
	got, e := settle.Chain(l[:2], 7)
	if e != api.OK || !slices.Equal(got, []settle.Settlement{{Out: 1, In: 2, Before: 7, After: 8}, {Out: 4, In: 5, Before: 8, After: 9}}) || !slices.Equal(l, kept) {
		t.Error(got, int(e), l)
	}
	posts, _ := settle.Posts(got[0])
	again, _ := settle.Posts(got[0])
	posts[0].Amount = 99
	if slices.Equal(posts, again) {
		t.Error("two answers are one")
	}
}
