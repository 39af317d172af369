// Package tree goes over the box language's trees, of whatever form. Lists of Kids may be shared: a few of them can be a tree that is too great to be gone over part by part, or one without an end, so what is known of a list is not asked again.
package tree

import (
	"slices"

	"octroi/api"
)

// Kids is a list of Kids by where it lies.
type Kids struct {
	first *api.Expr
	many  int
}

// KidsOf tells where Kids lie.
func KidsOf(l []api.Expr) Kids {
	if len(l) == 0 {
		return Kids{}
	}
	return Kids{&l[0], len(l)}
}

// Each tells whether something is so of an expression, and of all that is in it.
func Each(e api.Expr, is func(e api.Expr) bool) bool {
	met := map[Kids]int{}
	var over func(e api.Expr) bool
	isNot := func(e api.Expr) bool { return !over(e) }
	over = func(e api.Expr) bool {
		if !is(e) {
			return false
		}
		kids := KidsOf(e.Kids)
		met[kids]++
		return met[kids] > 1 || !slices.ContainsFunc(e.Kids, isNot)
	}
	return over(e)
}

// Copy tells an expression that has an end as one that shares no list with it; lists that are shared in it still are.
func Copy(e api.Expr) api.Expr {
	known := map[Kids][]api.Expr{}
	var copied func(e api.Expr) api.Expr
	copied = func(e api.Expr) api.Expr {
		e.Filters = exact(e.Filters)
		where := KidsOf(e.Kids)
		kids, is := known[where]
		if !is {
			kids = exact(e.Kids)
			for i, k := range kids {
				kids[i] = copied(k)
			}
			known[where] = kids
		}
		e.Kids = kids
		return e
	}
	return copied(e)
}

// exact tells a copy of a list that has no spare room.
func exact[T any](l []T) []T { return slices.Clip(slices.Clone(l)) }
