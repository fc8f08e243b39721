package model_test

import (
	"slices"
	"testing"

	"quadrille/api"
	"quadrille/events"
	"quadrille/model"
)

// The words that events have, and how many EvBegin stand ahead of them.
const (
	wordX = uint32(4 * iota)
	wordY
	wordZ
	begins = iota
)

// The events as tests number them: those of the rows begin at e0.
const (
	beginX = iota
	beginY
	beginZ
	e0
	e1
	e2
	e3
	e4
	e5
	e6
	e7
	e8
)

func load(addr uint32) api.Event     { return api.Event{Kind: api.EvLoad, Addr: addr} }
func store(addr uint32) api.Event    { return api.Event{Kind: api.EvStore, Addr: addr} }
func both(addr uint32) api.Event     { return api.Event{Kind: api.EvBoth, Addr: addr} }
func fence(pred, succ int) api.Event { return api.Event{Kind: api.EvFence, Pred: pred, Succ: succ} }

func lr(addr uint32) api.Event { return reserved(load(addr)) }
func sc(addr uint32) api.Event { return reserved(store(addr)) }

func reserved(e api.Event) api.Event { e.Reserved = true; return e }
func aq(e api.Event) api.Event       { e.Aq = true; return e }
func rl(e api.Event) api.Event       { e.Rl = true; return e }

func addrs(e api.Event, on ...int) api.Event { e.Addrs = on; return e }
func datas(e api.Event, on ...int) api.Event { e.Datas = on; return e }

func of(hart int, e api.Event) api.Event { e.Hart = hart; return e }

// execution is one of three EvBegin and events behind them. All values are 0, so that From may be any; each reads from its EvBegin, and stores come as they are numbered.
func execution(l ...api.Event) api.Execution {
	x := api.Execution{Order: make([][]int, begins)}
	for word := range begins {
		x.Events = append(x.Events, api.Event{Hart: -1, Kind: api.EvBegin, Addr: uint32(4 * word)})
	}
	x.Events = append(x.Events, l...)
	for number, e := range x.Events {
		from := -1
		if events.Loads(e) {
			from = int(e.Addr / 4)
		}
		x.From = append(x.From, from)
		if events.Stores(e) {
			x.Order[e.Addr/4] = append(x.Order[e.Addr/4], number)
		}
	}
	return x
}

// read has events that load read from others: by twos, the one that loads, the one that it reads from.
func read(x api.Execution, numbers ...int) api.Execution {
	x = copied(x)
	for two := range slices.Chunk(numbers, 2) {
		x.From[two[0]] = two[1]
	}
	return x
}

// come has the stores of a word come in that order, behind its EvBegin.
func come(x api.Execution, word uint32, numbers ...int) api.Execution {
	x = copied(x)
	x.Order[word/4] = append([]int{int(word / 4)}, numbers...)
	return x
}

// copied shares nothing with what it is a copy of.
func copied(x api.Execution) api.Execution {
	x.Events, x.From, x.Order = slices.Clone(x.Events), slices.Clone(x.From), slices.Clone(x.Order)
	for i := range x.Events {
		e := &x.Events[i]
		e.Addrs, e.Datas, e.Ctrls = slices.Clone(e.Addrs), slices.Clone(e.Datas), slices.Clone(e.Ctrls)
	}
	for i := range x.Order {
		x.Order[i] = slices.Clone(x.Order[i])
	}
	return x
}

// p makes pairs of numbers by twos.
func p(numbers ...int) (l []api.Pair) {
	for two := range slices.Chunk(numbers, 2) {
		l = append(l, api.Pair{A: two[0], B: two[1]})
	}
	return l
}

// verdict is made of the parts that are so: c for coherent, o for in order, a for atomic.
func verdict(parts string) (v api.Verdict) {
	for _, part := range parts {
		switch part {
		case 'c':
			v.Coherent = true
		case 'o':
			v.Ordered = true
		case 'a':
			v.Atomic = true
		}
	}
	return v
}

// row is an execution, and the parts that it is.
type row struct {
	name string
	x    api.Execution
	want string
}

// hold holds what is judged of executions against rows.
func hold(t *testing.T, rows ...row) {
	t.Helper()
	for _, r := range rows {
		if err := events.Check(r.x); err != api.OK {
			t.Errorf("%s: it may not be: %v", r.name, err)
			continue
		}
		want := verdict(r.want)
		if got, err := model.Judge(r.x); err != api.OK || got != want {
			t.Errorf("%s: Judge is %v, %v, want %v", r.name, got, err, want)
		}
		if got, err := model.Allowed(r.x); err != api.OK || got != (r.want == "coa") {
			t.Errorf("%s: Allowed is %v, %v", r.name, got, err)
		}
		if got, is := model.Global(r.x); is != want.Ordered || !is && got != nil {
			t.Errorf("%s: Global is %v, %v", r.name, got, is)
		}
	}
}
