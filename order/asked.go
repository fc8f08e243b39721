package order

import (
	"iter"

	"quadrille/api"
	"quadrille/events"
)

// asked is an execution that may be, of whose events it is asked whether they must stay in order.
type asked struct{ api.Execution }

// ask begins to ask an execution of events that are to be there.
func ask(x api.Execution, numbers ...int) (*asked, api.Errno) {
	if err := events.Check(x); err != api.OK {
		return nil, err
	}
	for _, number := range numbers {
		if number < 0 || number >= len(x.Events) {
			return nil, api.ErrRange
		}
	}
	return &asked{x}, api.OK
}

// holds tells whether a rule that is there holds of two events.
func (q *asked) holds(number, a, b int) bool {
	return q.mayBeKept(a, b) && rules()[number](q, a, b)
}

// holding tells the rules that hold of two events, rising.
func (q *asked) holding(a, b int) iter.Seq[int] {
	return func(yield func(int) bool) {
		if !q.mayBeKept(a, b) {
			return
		}
		for number, holds := range rules() {
			if number >= firstRule && holds(q, a, b) && !yield(number) {
				return
			}
		}
	}
}

// mayBeKept tells whether two events are such that rules are of: of one hart, both load or store, the first one is ahead.
func (q *asked) mayBeKept(a, b int) bool {
	first, second := q.Events[a], q.Events[b]
	return a < b && first.Hart == second.Hart && isAccess(first) && isAccess(second)
}

// isAccess tells whether an event of a hart loads or stores. An EvBegin stores, but is of none.
func isAccess(e api.Event) bool {
	return e.Kind != api.EvBegin && (events.Loads(e) || events.Stores(e))
}

// oneWord tells whether two events have one address.
func (q *asked) oneWord(a, b int) bool { return q.Events[a].Addr == q.Events[b].Addr }

// between tells the events between two of one hart, in program order: as events stand hart by hart, all of them are of that hart.
func (q *asked) between(a, b int) iter.Seq[int] {
	return func(yield func(int) bool) {
		for m := a + 1; m < b; m++ {
			if !yield(m) {
				return
			}
		}
	}
}

// someBetween tells whether an event between two of one hart is such a one.
func (q *asked) someBetween(a, b int, such func(m int) bool) bool {
	there := false
search:
	for m := range q.between(a, b) {
		if there = such(m); there {
			break search
		}
	}
	return there
}
