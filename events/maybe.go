package events

import "quadrille/api"

const (
	wordBytes = 4
	noHart    = -1    // whose an EvBegin is
	noStore   = -1    // where what does not load reads from
	bothSets  = 1 | 2 // what a fence's Pred or Succ has at most: writes and reads
)

// isNumber tells whether it is one of n numbers from 0 on.
func isNumber(number, n int) bool { return number >= 0 && number < n }

// eventsMayBe tells whether each event may be where it stands.
func eventsMayBe(l []api.Event) bool {
	for number, e := range l {
		if !partsMayBe(e) || !depsMayBe(l, number) {
			return false
		}
		if number > 0 && !mayFollow(l[number-1], e) {
			return false
		}
	}
	return begunWhereUsed(l)
}

// partsMayBe tells whether an event has no part that its Kind does not name, and each as it may be.
func partsMayBe(e api.Event) bool {
	named := partsOf(e.Kind)
	if named == 0 || filled(e)&^named != 0 {
		return false
	}
	return hartMayBe(e) && e.Addr%wordBytes == 0 && isNumber(e.Pred, bothSets+1) && isNumber(e.Succ, bothSets+1)
}

// hartMayBe tells whether an event is of a hart, or, if it is an EvBegin, of none.
func hartMayBe(e api.Event) bool {
	if e.Kind == api.EvBegin {
		return e.Hart == noHart
	}
	return isNumber(e.Hart, api.MaxHarts)
}

// mayFollow tells whether an event may be the next one behind another. As an EvBegin's Hart is below all others, harts that do not fall put it first.
func mayFollow(last, e api.Event) bool {
	if e.Kind == api.EvBegin && last.Kind == api.EvBegin {
		return last.Addr < e.Addr
	}
	return last.Hart <= e.Hart
}

// depsMayBe tells whether an event hangs on nothing but loads of its hart that are ahead of it.
func depsMayBe(l []api.Event, number int) bool {
	e := l[number]
	for _, deps := range [...][]int{e.Addrs, e.Datas, e.Ctrls} {
		last := -1
		for _, d := range deps {
			if d <= last || d >= number || l[d].Hart != e.Hart || !Loads(l[d]) {
				return false
			}
			last = d
		}
	}
	return true
}

// begunWhereUsed tells whether there is an EvBegin of each address that an event has. Those of EvBegin need no asking: each is its address's own. As they stand first, an address that an access has is begun by then.
func begunWhereUsed(l []api.Event) bool {
	begun := map[uint32]struct{}{}
	for _, e := range l {
		switch e.Kind {
		case api.EvBegin:
			begun[e.Addr] = struct{}{}
		case api.EvLoad, api.EvStore, api.EvBoth:
			if _, ok := begun[e.Addr]; !ok {
				return false
			}
		}
	}
	return true
}

// fromMayBe tells whether each event that loads reads from one that it may read from, and no other event does.
func fromMayBe(l []api.Event, from []int) bool {
	if len(from) != len(l) {
		return false
	}
	for number, e := range l {
		if !Loads(e) && from[number] != noStore || Loads(e) && !mayRead(l, number, from[number]) {
			return false
		}
	}
	return true
}

// mayRead tells whether an event that loads may read from the one of that number.
func mayRead(l []api.Event, number, from int) bool {
	if !isNumber(from, len(l)) || from == number {
		return false
	}
	e, store := l[number], l[from]
	return Stores(store) && store.Addr == e.Addr && store.Value == e.ReadValue
}

// orderMayBe tells whether each address has its list. The EvBegin stand first, one of each address and rising: so the list of an address has its EvBegin's number.
func orderMayBe(l []api.Event, order [][]int) bool {
	stores := map[uint32]int{}
	begins := 0
	for _, e := range l {
		if Stores(e) {
			stores[e.Addr]++
		}
		if e.Kind == api.EvBegin {
			begins++
		}
	}
	if len(order) != begins {
		return false
	}
	for begin, list := range order {
		if len(list) != stores[l[begin].Addr] || list[0] != begin || !storesOnce(l, list) {
			return false
		}
	}
	return true
}

// storesOnce tells whether a list has but events that store where its first one does, each once.
func storesOnce(l []api.Event, list []int) bool {
	seen := map[int]struct{}{}
	for _, number := range list {
		if !isNumber(number, len(l)) || !Stores(l[number]) || l[number].Addr != l[list[0]].Addr {
			return false
		}
		seen[number] = struct{}{}
	}
	return len(seen) == len(list)
}
