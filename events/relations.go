package events

import "quadrille/api"

// bond is what a relation tells of two events.
type bond int

const (
	apart bond = iota
	paired
	over // apart, and so is the first one from all behind the second one
)

// relation tells the bond of two events, by their numbers.
type relation func(a, b int) bond

// pairs tells the pairs of a relation, which is made only of an execution that may be.
func pairs(x api.Execution, of func(x api.Execution) relation) []api.Pair {
	if Check(x) != api.OK {
		return nil
	}
	bondOf := of(x)
	var told []api.Pair
next:
	for a := range x.Events {
		for b := range x.Events {
			switch bondOf(a, b) {
			case paired:
				told = append(told, api.Pair{A: a, B: b})
			case over:
				continue next
			}
		}
	}
	return told
}

// bondIf tells the bond of two that are paired if that is so.
func bondIf(so bool) bond {
	if so {
		return paired
	}
	return apart
}

// programOrder pairs events of one hart; memory as it was is of none.
func programOrder(x api.Execution) relation {
	return func(a, b int) bond {
		first, second := x.Events[a], x.Events[b]
		if first.Kind == api.EvBegin || first.Hart < second.Hart {
			return over
		}
		return bondIf(a < b)
	}
}

// readsFrom pairs a store with what reads from it.
func readsFrom(x api.Execution) relation {
	return func(a, b int) bond {
		if !Stores(x.Events[a]) {
			return over
		}
		return bondIf(x.From[b] == a)
	}
}

// coherenceOrder pairs a store with those of its address behind it.
func coherenceOrder(x api.Execution) relation {
	comesBehind := behindIn(x)
	return func(a, b int) bond {
		if !Stores(x.Events[a]) {
			return over
		}
		return bondIf(comesBehind(a, b))
	}
}

// fromReads pairs what loads with the stores behind the one that it reads from.
func fromReads(x api.Execution) relation {
	comesBehind := behindIn(x)
	return func(a, b int) bond {
		if !Loads(x.Events[a]) {
			return over
		}
		return bondIf(a != b && comesBehind(x.From[a], b))
	}
}

// behindIn makes what tells whether an event is a store that comes behind another store, of one address.
func behindIn(x api.Execution) func(store, b int) bool {
	ranks := map[int]int{}
	for _, list := range x.Order {
		for rank, number := range list {
			ranks[number] = rank
		}
	}
	return func(store, b int) bool {
		return Stores(x.Events[b]) && x.Events[b].Addr == x.Events[store].Addr && ranks[b] > ranks[store]
	}
}
