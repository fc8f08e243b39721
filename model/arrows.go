package model

import (
	"cmp"
	"maps"
	"slices"

	"quadrille/api"
)

// arrows are pairs of events' numbers, each once, however many relations tell it.
type arrows map[api.Pair]struct{}

// arrowsOf grows arrows from relations.
func arrowsOf(relations ...[]api.Pair) arrows {
	l := arrows{}
	for _, pairs := range relations {
		for _, p := range pairs {
			l[p] = struct{}{}
		}
	}
	return l
}

// lead tells whether an arrow leads from one event to another one.
func (l arrows) lead(a, b int) bool {
	_, there := l[api.Pair{A: a, B: b}]
	return there
}

// rising tells the arrows by rising A, then B.
func (l arrows) rising() []api.Pair {
	return slices.SortedFunc(maps.Keys(l), func(p, q api.Pair) int {
		return cmp.Or(cmp.Compare(p.A, q.A), cmp.Compare(p.B, q.B))
	})
}

// only tells the pairs that are such.
func only(pairs []api.Pair, such func(p api.Pair) bool) []api.Pair {
	var told []api.Pair
	for _, p := range pairs {
		if such(p) {
			told = append(told, p)
		}
	}
	return told
}
