package events

import "slices"

// look is how far a place has been looked at.
type look int

const (
	notYet look = iota
	under       // one is on its way from it
	whole       // no circle goes on from it
)

// hasCircle tells whether a graph of n places has a circle; next tells of a place where its arrows go.
func hasCircle(n int, next map[int][]int) bool {
	looks := map[int]look{}
	var leads func(place int) bool
	leads = func(place int) bool {
		switch looks[place] {
		case under:
			return true
		case whole:
			return false
		}
		looks[place] = under
		if slices.ContainsFunc(next[place], leads) {
			return true
		}
		looks[place] = whole
		return false
	}
	for place := range n {
		if leads(place) {
			return true
		}
	}
	return false
}
