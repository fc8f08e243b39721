package order

import (
	"slices"

	"quadrille/api"
	"quadrille/events"
)

const (
	firstRule = 1
	pairing   = 8 // the rule of an lr and its sc
	lastRule  = 13
)

// What a fence's Pred and Succ are sums of.
const (
	writes = 1
	reads  = 2
)

// rule tells whether an event must stay ahead of another one of its hart, behind it in program order; both load or store.
type rule func(q *asked, a, b int) bool

// rules tells the rules, each at its number.
func rules() [lastRule + 1]rule {
	return [...]rule{
		1:       storesThere,
		2:       loadOtherStores,
		3:       readsAtomic,
		4:       fenced,
		5:       acquired,
		6:       released,
		7:       bothMarked,
		pairing: paired,
		9:       byAddress,
		10:      byData,
		11:      byBranch,
		12:      byStoreRead,
		13:      byAddressBetween,
	}
}

func storesThere(q *asked, a, b int) bool { return events.Stores(q.Events[b]) && q.oneWord(a, b) }

func loadOtherStores(q *asked, a, b int) bool {
	return events.Loads(q.Events[a]) && events.Loads(q.Events[b]) && q.oneWord(a, b) && q.From[a] != q.From[b] &&
		!q.someBetween(a, b, func(m int) bool { return events.Stores(q.Events[m]) && q.oneWord(a, m) })
}

// readsAtomic leans on From: only what loads reads from another event, and only from one that stores.
func readsAtomic(q *asked, a, b int) bool { return isAtomic(q.Events[a]) && q.From[b] == a }

func fenced(q *asked, a, b int) bool {
	return q.someBetween(a, b, func(m int) bool {
		fence := q.Events[m]
		return fence.Kind == api.EvFence && isIn(fence.Pred, q.Events[a]) && isIn(fence.Succ, q.Events[b])
	})
}

func acquired(q *asked, a, b int) bool { return q.Events[a].Aq }

func released(q *asked, a, b int) bool { return q.Events[b].Rl }

func bothMarked(q *asked, a, b int) bool {
	return isMarkedAtomic(q.Events[a]) && isMarkedAtomic(q.Events[b])
}

// paired asks that nothing Reserved is between: a load there would be the last one, a store would be another one.
func paired(q *asked, a, b int) bool {
	load, store := q.Events[a], q.Events[b]
	return load.Reserved && events.Loads(load) && store.Reserved && events.Stores(store) && q.oneWord(a, b) &&
		!q.someBetween(a, b, func(m int) bool { return q.Events[m].Reserved })
}

func byAddress(q *asked, a, b int) bool { return slices.Contains(q.Events[b].Addrs, a) }

func byData(q *asked, a, b int) bool { return slices.Contains(q.Events[b].Datas, a) }

func byBranch(q *asked, a, b int) bool {
	return events.Stores(q.Events[b]) && slices.Contains(q.Events[b].Ctrls, a)
}

// byStoreRead leans on From, as readsAtomic does.
func byStoreRead(q *asked, a, b int) bool {
	return q.someBetween(a, b, func(m int) bool {
		return q.From[b] == m && (byAddress(q, a, m) || byData(q, a, m))
	})
}

func byAddressBetween(q *asked, a, b int) bool {
	return events.Stores(q.Events[b]) && q.someBetween(a, b, func(m int) bool { return byAddress(q, a, m) })
}

// isAtomic tells whether an event is one of those that load and store at one time, by itself or with its pair.
func isAtomic(e api.Event) bool { return e.Kind == api.EvBoth || e.Reserved }

// isMarkedAtomic tells whether it is such a one, and has Aq or Rl.
func isMarkedAtomic(e api.Event) bool { return isAtomic(e) && (e.Aq || e.Rl) }

// isIn tells whether a fence's Pred or Succ has an event.
func isIn(set int, e api.Event) bool {
	return set&writes != 0 && events.Stores(e) || set&reads != 0 && events.Loads(e)
}
