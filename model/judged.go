package model

import (
	"quadrille/api"
	"quadrille/events"
	"quadrille/order"
)

// judged is an execution that may be, of which it is asked whether it is allowed.
type judged struct{ api.Execution }

// parts is what is judged of an execution: whether it is each of the three, not asked till it is called.
type parts struct{ coherent, ordered, atomic func() bool }

// bring brings an execution to be judged, if it may be.
func bring(x api.Execution) (*judged, api.Errno) {
	if err := events.Check(x); err != api.OK {
		return nil, err
	}
	return &judged{x}, api.OK
}

func (j *judged) parts() parts {
	return parts{coherent: j.isCoherent, ordered: j.isOrdered, atomic: j.isAtomic}
}

func (j *judged) isCoherent() bool {
	oneAddress := func(p api.Pair) bool {
		a, b := j.Events[p.A], j.Events[p.B]
		return !isFence(a) && !isFence(b) && a.Addr == b.Addr
	}
	x := j.Execution
	return j.noCircle(arrowsOf(only(events.Po(x), oneAddress), events.Rf(x), events.Co(x), events.Fr(x)))
}

func (j *judged) isOrdered() bool { return j.noCircle(j.arrowsInOrder()) }

// isAtomic asks for what comes between in the one way alone: where an event reads from one behind itself in coherence order, nothing does.
func (j *judged) isAtomic() bool {
	ahead := arrowsOf(events.Co(j.Execution))
	spoils := func(other, from, store int) bool {
		return ahead.lead(from, other) && ahead.lead(other, store) && j.Events[other].Hart != j.Events[store].Hart
	}
	for store := range j.Events {
		load, is := j.loadOf(store)
		if !is {
			continue
		}
		for other := range j.Events {
			if spoils(other, j.From[load], store) {
				return false
			}
		}
	}
	return true
}

// loadOf tells the event that loads at one time with a store, if one does: itself, or the one that it is paired with.
func (j *judged) loadOf(store int) (int, bool) {
	if j.Events[store].Kind == api.EvBoth {
		return store, true
	}
	return order.Paired(j.Execution, store)
}

// arrowsInOrder tells the arrows that a global order goes along with. An EvBegin is of no hart, so what reads from it counts as of two.
func (j *judged) arrowsInOrder() arrows {
	twoHarts := func(p api.Pair) bool { return j.Events[p.A].Hart != j.Events[p.B].Hart }
	x := j.Execution
	kept, _ := order.Ppo(x) // it refuses but what may not be
	return arrowsOf(kept, only(events.Rf(x), twoHarts), events.Co(x), events.Fr(x))
}

// noCircle tells whether arrows between the events have no circle.
func (j *judged) noCircle(l arrows) bool { return events.Acyclic(len(j.Events), l.rising()...) }

func isFence(e api.Event) bool { return e.Kind == api.EvFence }
