package tree_test

import (
	"reflect"
	"testing"

	"octroi/api"
	"octroi/tree"
)

func num(n int) api.Expr { return api.Expr{Kind: api.ExNum, N: n} }

func of(kind int, kids ...api.Expr) api.Expr { return api.Expr{Kind: kind, Kids: kids} }

// sample tells a tree, which may not be, of parts that are 1 to 7.
func sample() api.Expr {
	e := of(api.ExPlus, of(0, num(3), of(api.ExNeg, num(5))), api.Expr{Kind: api.ExTotal, N: 6, Field: "base", Filters: []api.Filter{{Tag: "rate", Sign: '=', N: 1}}, Kids: []api.Expr{num(7)}})
	e.N, e.Kids[0].N, e.Kids[0].Kids[1].N = 1, 2, 4
	return e
}

// Each asks of all, each ahead of its Kids, from the left, up to the first one of which it is not so.
func TestEach(t *testing.T) {
	for last := 1; last <= 8; last++ {
		var asked []int
		is := tree.Each(sample(), func(e api.Expr) bool {
			asked = append(asked, e.N)
			return e.N != last
		})
		if is != (last == 8) || !reflect.DeepEqual(asked, []int{1, 2, 3, 4, 5, 6, 7}[:min(last, 7)]) {
			t.Error(last, is, asked)
		}
	}
	if tree.Each(api.Expr{}, func(e api.Expr) bool { return e.Kind != 0 }) {
		t.Error("one alone")
	}
}

// Lists that are shared, and trees that have themselves in them, are gone through once.
func TestShared(t *testing.T) {
	e := num(1)
	for range 1000 {
		e = of(api.ExPlus, e, e)
	}
	ring := []api.Expr{num(1), num(2)}
	ring[0].Kids, ring[1].Kids = ring, ring[:1]
	for many, e := range map[int]api.Expr{2001: e, 4: of(api.ExPlus, ring...)} {
		asked := 0
		count := func(api.Expr) bool { asked++; return true }
		if !tree.Each(e, count) || asked != many {
			t.Error(asked, many)
		}
	}
	c := tree.Copy(e)
	for deep := range 1000 {
		if tree.KidsOf(c.Kids) == tree.KidsOf(e.Kids) || len(c.Kids) != 2 || tree.KidsOf(c.Kids[0].Kids) != tree.KidsOf(c.Kids[1].Kids) {
			t.Fatal(deep)
		}
		c, e = c.Kids[0], e.Kids[1]
	}
	if !reflect.DeepEqual(c, num(1)) {
		t.Error(c)
	}
}

// Lists are known by where they lie, and by how long they are; all that have nothing in them are one.
func TestKidsOf(t *testing.T) {
	l := []api.Expr{num(1), num(1), num(1)}
	lists := [][]api.Expr{nil, l[:1], l[:2], l, l[1:], l[1:2], l[2:], {num(1)}}
	for i, a := range lists {
		for j, b := range lists {
			if (tree.KidsOf(a) == tree.KidsOf(b)) != (i == j) {
				t.Error(i, j)
			}
		}
	}
	if tree.KidsOf(l[:0]) != tree.KidsOf(nil) || tree.KidsOf(l[2:2]) != tree.KidsOf([]api.Expr{}) {
		t.Error("nothing")
	}
}

// A copy is the same, shares nothing, and has no spare room, whatever is behind the lists that it was made of.
func TestCopy(t *testing.T) {
	e := sample()
	e.Kids = append(e.Kids, num(8))[:2]
	e.Kids[1].Filters = append(e.Kids[1].Filters, api.Filter{Tag: "late"})[:1]
	c := tree.Copy(e)
	if !reflect.DeepEqual(c, sample()) || cap(c.Kids) != 2 || cap(c.Kids[1].Filters) != 1 {
		t.Error(c)
	}
	for n := range 50 {
		long := of(0, make([]api.Expr, n)...)
		long.Filters = make([]api.Filter, n)
		if c := tree.Copy(long); !reflect.DeepEqual(c, long) || cap(c.Kids) != n || cap(c.Filters) != n {
			t.Error(n)
		}
	}
	c.Kids[1].Filters[0].N, c.Kids[0].Kids[1].Kids[0].N, c.Kids[0].N = 9, 9, 9
	if !reflect.DeepEqual(e, sample()) || e.Kids[:3][2].N != 8 || e.Kids[1].Filters[:2][1].Tag != "late" {
		t.Error(e)
	}
}
