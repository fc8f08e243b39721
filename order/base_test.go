package order_test

import (
	"slices"
	"testing"

	"quadrille/api"
	"quadrille/events"
	"quadrille/order"
)

// The words that events have, and how many EvBegin stand ahead of them.
const (
	wordX = uint32(4 * iota)
	wordY
	wordZ
	begins = iota
)

// The events of one hart, as tests number them: those of the rows begin at e0.
const (
	beginX = iota
	beginY
	beginZ
	e0
	e1
	e2
	e3
	e4
	e5
)

// lastRule is the number of the last rule there is.
const lastRule = 13

func load(addr uint32) api.Event     { return api.Event{Kind: api.EvLoad, Addr: addr} }
func store(addr uint32) api.Event    { return api.Event{Kind: api.EvStore, Addr: addr} }
func both(addr uint32) api.Event     { return api.Event{Kind: api.EvBoth, Addr: addr} }
func fence(pred, succ int) api.Event { return api.Event{Kind: api.EvFence, Pred: pred, Succ: succ} }

func lr(addr uint32) api.Event { return reserved(load(addr)) }
func sc(addr uint32) api.Event { return reserved(store(addr)) }

func reserved(e api.Event) api.Event { e.Reserved = true; return e }
func aq(e api.Event) api.Event       { e.Aq = true; return e }
func rl(e api.Event) api.Event       { e.Rl = true; return e }

func addrs(e api.Event, on ...int) api.Event { e.Addrs = on; return e }
func datas(e api.Event, on ...int) api.Event { e.Datas = on; return e }
func ctrls(e api.Event, on ...int) api.Event { e.Ctrls = on; return e }

func of(hart int, e api.Event) api.Event { e.Hart = hart; return e }

// reads tells by twos which events read from which: an event that loads, the one that it reads from.
type reads []int

// execution is one of three EvBegin and events behind them. All values are 0, so that From may be any; what is not told reads from its EvBegin.
func execution(from reads, l ...api.Event) api.Execution {
	x := api.Execution{Order: make([][]int, begins)}
	for word := range begins {
		x.Events = append(x.Events, api.Event{Hart: -1, Kind: api.EvBegin, Addr: uint32(4 * word)})
	}
	x.Events = append(x.Events, l...)
	for number, e := range x.Events {
		store := -1
		if events.Loads(e) {
			store = int(e.Addr / 4)
		}
		x.From = append(x.From, store)
		if events.Stores(e) {
			x.Order[e.Addr/4] = append(x.Order[e.Addr/4], number)
		}
	}
	for two := range slices.Chunk(from, 2) {
		x.From[two[0]] = two[1]
	}
	return x
}

// row is an execution, two of its events, and the rules that hold of them.
type row struct {
	name string
	x    api.Execution
	a, b int
	want []int
}

// hold holds all that is told of two events against a row.
func hold(t *testing.T, rows ...row) {
	t.Helper()
	for _, r := range rows {
		if err := events.Check(r.x); err != api.OK {
			t.Errorf("%s: it may not be: %v", r.name, err)
			continue
		}
		if got, err := order.Rules(r.x, r.a, r.b); err != api.OK || !slices.Equal(got, r.want) {
			t.Errorf("%s: rules %v, %v, want %v", r.name, got, err, r.want)
		}
		for rule := 1; rule <= lastRule; rule++ {
			if got, err := order.Rule(r.x, rule, r.a, r.b); err != api.OK || got != slices.Contains(r.want, rule) {
				t.Errorf("%s: rule %d: %v, %v", r.name, rule, got, err)
			}
		}
		pairs, err := order.Ppo(r.x)
		if kept := slices.Contains(pairs, api.Pair{A: r.a, B: r.b}); err != api.OK || kept != (len(r.want) > 0) {
			t.Errorf("%s: kept: %v, %v", r.name, kept, err)
		}
		if load, is := order.Paired(r.x, r.b); slices.Contains(r.want, 8) != (is && load == r.a) {
			t.Errorf("%s: paired with %d, %v", r.name, load, is)
		}
	}
}

// one is the events of one hart.
func one(l ...api.Event) api.Execution { return execution(nil, l...) }

// copied shares nothing with what it is a copy of.
func copied(x api.Execution) api.Execution {
	x.Events, x.From, x.Order = slices.Clone(x.Events), slices.Clone(x.From), slices.Clone(x.Order)
	for i := range x.Events {
		e := &x.Events[i]
		e.Addrs, e.Datas, e.Ctrls = slices.Clone(e.Addrs), slices.Clone(e.Datas), slices.Clone(e.Ctrls)
	}
	for i := range x.Order {
		x.Order[i] = slices.Clone(x.Order[i])
	}
	return x
}
