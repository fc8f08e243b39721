package lines

import (
	"iter"
	"slices"

	"quadrille/api"
)

// How many sets a cache has at most, and how many ways each of them.
const (
	mostSets = 64
	mostWays = 8
)

// mayBe tells whether a cache may have so many sets of so many ways.
func mayBe(sets, ways int) bool {
	return sets >= 1 && sets <= mostSets && sets&(sets-1) == 0 && ways >= 1 && ways <= mostWays
}

// isHeld tells whether a line of a state is one that a cache has.
func isHeld(s api.State) bool {
	return s == api.StateS || s == api.StateE || s == api.StateM
}

// chosen tells which of some things a number chooses.
func chosen(pick, things int) int {
	left := pick % things // below 0 of a pick below 0
	return (left + things) % things
}

// isNone tells whether there is no cache.
func (c *Lines) isNone() bool { return c == nil || len(c.sets) == 0 }

// isFull tells whether a set has as many lines as it has ways.
func (c *Lines) isFull(set int) bool { return len(c.sets[set]) == c.ways }

// seek tells the set that a line of a number belongs to, where in it that line stands, and whether it does. Of no cache nothing stands anywhere.
func (c *Lines) seek(number uint32) (set, at int, is bool) {
	if c.isNone() {
		return 0, 0, false
	}
	set = int(number % uint32(len(c.sets)))
	at = slices.IndexFunc(c.sets[set], hasNumber(number))
	return set, at, at >= 0
}

// hasNumber asks lines whether they are the one of a number.
func hasNumber(number uint32) func(api.Line) bool {
	return func(l api.Line) bool { return l.Number == number }
}

// standing goes over the lines, set by set, as they stand while it goes.
func (c *Lines) standing() iter.Seq[api.Line] {
	return func(yield func(api.Line) bool) {
		if c.isNone() {
			return
		}
	over:
		for _, lines := range c.sets {
			for _, l := range lines {
				if !yield(l) {
					break over
				}
			}
		}
	}
}

// sameRows tells whether two lists of rows are the same, row by row.
func sameRows[T comparable](a, b [][]T) bool {
	return slices.EqualFunc(a, b, slices.Equal[[]T])
}
