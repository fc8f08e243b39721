package events_test

import (
	"math"
	"math/rand"
	"slices"
	"testing"

	"quadrille/api"
	"quadrille/events"
)

// round is the arrows from each place to the next one, and from the last to the first.
func round(places ...int) (l []api.Pair) {
	for i, a := range places {
		l = append(l, api.Pair{A: a, B: places[(i+1)%len(places)]})
	}
	return l
}

// upTo is the numbers from 0 on.
func upTo(n int) (l []int) {
	for i := range n {
		l = append(l, i)
	}
	return l
}

// forward is all arrows from lower places to higher ones.
func forward(n int) (l []api.Pair) {
	for b := range n {
		for a := range b {
			l = append(l, api.Pair{A: a, B: b})
		}
	}
	return l
}

func TestP6_3Acyclic(t *testing.T) {
	all := upTo(api.MaxEvents)
	down := slices.Clone(all)
	slices.Reverse(down)
	for _, r := range []struct {
		n    int
		l    []api.Pair
		want bool
	}{
		{-1, nil, false}, {math.MinInt, nil, false}, {-1, p(0, 1), false}, {0, nil, true}, {0, []api.Pair{}, true}, {1, nil, true}, {2, nil, true},
		{api.MaxEvents, nil, true}, {api.MaxEvents + 1, nil, false}, {math.MaxInt, nil, false}, {api.MaxEvents + 1, p(0, 1), false},
		{0, p(0, 0), false}, {0, p(-1, -1), false}, {1, p(0, 0), false}, {1, p(0, 1), false}, {1, p(1, 0), false},
		{3, p(0, -1), false}, {3, p(-1, 0), false}, {3, p(0, 3), false}, {3, p(3, 0), false}, {3, p(0, 1, 1, 2, 3, 4), false}, {3, p(0, 1, 2, math.MaxInt), false}, {3, p(math.MinInt, 0), false},
		{3, p(2, 2), false}, {3, p(0, 1, 1, 1), false},
		{2, p(0, 1), true}, {2, p(1, 0), true}, {2, p(0, 1, 1, 0), false}, {2, p(0, 1, 0, 1), true}, {2, p(0, 1, 0, 1, 1, 0), false},
		{3, p(0, 1, 1, 2), true}, {3, p(0, 1, 1, 2, 0, 2), true}, {3, p(0, 1, 1, 2, 2, 0), false}, {3, p(1, 0, 0, 2, 2, 1), false}, {3, p(2, 1, 1, 0, 2, 0), true},
		{4, p(0, 1, 0, 2, 1, 3, 2, 3), true}, {4, p(0, 1, 0, 2, 1, 3, 2, 3, 3, 0), false}, {4, p(0, 1, 2, 3, 3, 2), false}, {5, p(3, 1, 1, 4, 4, 3, 0, 2), false},
		{4, p(1, 0, 2, 0, 3, 1, 3, 2), true}, {4, p(3, 2, 2, 1, 1, 0, 0, 1), false},
		{api.MaxEvents, round(all...), false}, {api.MaxEvents, round(all...)[:api.MaxEvents-1], true}, {api.MaxEvents, round(all...)[1:], true},
		{api.MaxEvents, round(down...), false}, {api.MaxEvents, round(down...)[1:], true},
		{api.MaxEvents, forward(api.MaxEvents), true}, {api.MaxEvents, append(forward(api.MaxEvents), p(63, 0)...), false}, {api.MaxEvents, append(forward(api.MaxEvents), p(63, 62)...), false},
		{api.MaxEvents, p(63, 0), true}, {api.MaxEvents, p(63, 64), false}, {api.MaxEvents, p(63, 63), false},
		{2, slices.Repeat(p(0, 1), 100000), true}, {2, append(slices.Repeat(p(0, 1), 100000), p(1, 0)...), false},
	} {
		if got := events.Acyclic(r.n, r.l...); got != r.want {
			t.Errorf("Acyclic of %d places, %d arrows %v is %v", r.n, len(r.l), r.l[:min(len(r.l), 6)], got)
		}
	}
}

// reached tells whether arrows lead from a place back to it, by what is reached in any number of steps.
func reached(n int, l []api.Pair) bool {
	var reach [api.MaxEvents][api.MaxEvents]bool
	for _, p := range l {
		reach[p.A][p.B] = true
	}
	for m := range n {
		for a := range n {
			for b := range n {
				reach[a][b] = reach[a][b] || reach[a][m] && reach[m][b]
			}
		}
	}
	for a := range n {
		if reach[a][a] {
			return true
		}
	}
	return false
}

// anyArrows is some arrows of n places.
func anyArrows(source *rand.Rand, n, most int) (l []api.Pair) {
	for range source.Intn(most + 1) {
		l = append(l, api.Pair{A: source.Intn(n), B: source.Intn(n)})
	}
	return l
}

func TestP6_3AnyArrows(t *testing.T) {
	source := rand.New(rand.NewSource(63))
	var met [2]int
	for range 3000 {
		n := 1 + source.Intn(api.MaxEvents)
		l := anyArrows(source, n, n)
		circle := reached(n, l)
		if events.Acyclic(n, l...) == circle {
			t.Fatalf("Acyclic of %d places, %v is %v", n, l, !circle)
		}
		if circle {
			met[0]++
		} else {
			met[1]++
		}
	}
	if met[0] < 300 || met[1] < 300 {
		t.Errorf("met only %v", met)
	}
}

// inOrder tells whether places have an order in which no arrow goes back, by trying all of them.
func inOrder(n int, l []api.Pair, taken []int) bool {
	if len(taken) == n {
		return true
	}
	for place := range n {
		back := func(p api.Pair) bool {
			return p.A == place && (p.B == place || slices.Contains(taken, p.B))
		}
		if !slices.Contains(taken, place) && !slices.ContainsFunc(l, back) && inOrder(n, l, append(slices.Clone(taken), place)) {
			return true
		}
	}
	return false
}

// TestP6_4Orders holds Acyclic against all orders of all graphs of 3 places, and of any of up to 6.
func TestP6_4Orders(t *testing.T) {
	for set := range 1 << 9 {
		var l []api.Pair
		for i := range 9 {
			if set>>i&1 == 1 {
				l = append(l, api.Pair{A: i / 3, B: i % 3})
			}
		}
		if got, want := events.Acyclic(3, l...), inOrder(3, l, nil); got != want {
			t.Errorf("%v has an order: %v, Acyclic: %v", l, want, got)
		}
	}
	source := rand.New(rand.NewSource(64))
	for range 5000 {
		n := 1 + source.Intn(6)
		l := anyArrows(source, n, 2*n)
		if got, want := events.Acyclic(n, l...), inOrder(n, l, nil); got != want {
			t.Errorf("%d places, %v has an order: %v, Acyclic: %v", n, l, want, got)
		}
	}
}
