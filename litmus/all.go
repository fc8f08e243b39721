package litmus

import (
	"iter"
	"slices"

	"quadrille/api"
	"quadrille/events"
)

// all tells a plan's executions, by rising From, then by rising Order.
func (p *plan) all() iter.Seq[api.Execution] {
	return func(yield func(api.Execution) bool) {
		var orders [][][]int
		for _, stores := range p.stores {
			orders = append(orders, ordersOf(stores[:1], stores[1:]))
		}
		for from := range each(p.from) {
			stored, ok := p.values(from)
			if !ok {
				continue
			}
			for order := range each(orders) {
				if !yield(p.execution(from, order, stored)) {
					return
				}
			}
		}
	}
}

// each tells all lists that have one thing of each of some lists; as those rise, so do they. It is one list, written over each time.
func each[T any](lists [][]T) iter.Seq[[]T] {
	return func(yield func([]T) bool) {
		told := make([]T, len(lists))
		var goOn func(place int) bool
		goOn = func(place int) bool {
			if place == len(lists) {
				return yield(told)
			}
			for _, thing := range lists[place] {
				told[place] = thing
				if !goOn(place + 1) {
					return false
				}
			}
			return true
		}
		goOn(0)
	}
}

// ordersOf tells, rising, all orders of numbers that rise, behind those that stand first.
func ordersOf(first, rest []int) [][]int {
	if len(rest) == 0 {
		return [][]int{first}
	}
	var told [][]int
	for i, next := range rest {
		others := slices.Concat(rest[:i], rest[i+1:])
		told = append(told, ordersOf(append(slices.Clone(first), next), others)...)
	}
	return told
}

// execution makes the one of a From and an Order, where it is known what each event stores. It shares no memory.
func (p *plan) execution(from []int, order [][]int, stored []uint32) api.Execution {
	x := api.Execution{From: slices.Clone(from)}
	for number, e := range p.events {
		e.Value = stored[number]
		if from[number] != noStore {
			e.ReadValue = stored[from[number]]
		}
		e.Addrs, e.Datas, e.Ctrls = slices.Clone(e.Addrs), slices.Clone(e.Datas), slices.Clone(e.Ctrls)
		x.Events = append(x.Events, e)
	}
	for _, list := range order {
		x.Order = append(x.Order, slices.Clone(list))
	}
	return x
}

// has tells whether an execution is one of a plan's: its From and its Order are, and all else is what comes of them.
func (p *plan) has(x api.Execution) bool {
	mayRead := func(from int, may []int) bool { return slices.Contains(may, from) }
	mayCome := func(order, stores []int) bool {
		return len(order) == len(stores) && order[0] == stores[0] && slices.Equal(slices.Sorted(slices.Values(order)), stores)
	}
	if !slices.EqualFunc(x.From, p.from, mayRead) || !slices.EqualFunc(x.Order, p.stores, mayCome) {
		return false
	}
	stored, ok := p.values(x.From)
	return ok && events.Same(x, p.execution(x.From, x.Order, stored))
}
