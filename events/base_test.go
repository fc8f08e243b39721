package events_test

import (
	"slices"

	"quadrille/api"
	"quadrille/events"
)

const (
	x = uint32(0)
	y = uint32(8)
)

// Where the events of some stand.
const (
	beginX = iota
	beginY
	lrY    // hart 0
	loadX  // of both2's value
	scY    // hangs on all three ways
	fence0 // of hart 0
	both0  // in the middle of x's list
	both2  // hart 2
	loadY
	fence2
	storeX
	howMany
)

// some is an execution with all kinds of events, and all that they may have.
func some() api.Execution {
	return api.Execution{
		Events: []api.Event{
			beginX: {Hart: -1, Kind: api.EvBegin, Addr: x},
			beginY: {Hart: -1, Kind: api.EvBegin, Addr: y, Value: 7},
			lrY:    {Hart: 0, Kind: api.EvLoad, Addr: y, ReadValue: 7, Aq: true, Reserved: true},
			loadX:  {Hart: 0, Kind: api.EvLoad, Addr: x, ReadValue: 5, Addrs: []int{lrY}, Ctrls: []int{lrY}},
			scY:    {Hart: 0, Kind: api.EvStore, Addr: y, Value: 9, Rl: true, Reserved: true, Addrs: []int{loadX}, Datas: []int{lrY, loadX}, Ctrls: []int{lrY}},
			fence0: {Hart: 0, Kind: api.EvFence, Pred: 1, Succ: 3, Ctrls: []int{lrY, loadX}},
			both0:  {Hart: 0, Kind: api.EvBoth, Addr: x, ReadValue: 5, Value: 6, Aq: true, Rl: true, Addrs: []int{lrY}, Datas: []int{loadX}, Ctrls: []int{lrY, loadX}},
			both2:  {Hart: 2, Kind: api.EvBoth, Addr: x, Value: 5},
			loadY:  {Hart: 2, Kind: api.EvLoad, Addr: y, ReadValue: 9, Ctrls: []int{both2}},
			fence2: {Hart: 2, Kind: api.EvFence, Pred: 2},
			storeX: {Hart: 2, Kind: api.EvStore, Addr: x, Value: 1, Datas: []int{loadY}},
		},
		From:  []int{-1, -1, beginY, both2, -1, -1, both2, beginX, scY, -1, -1},
		Order: [][]int{{beginX, both2, both0, storeX}, {beginY, scY}},
	}
}

// changed is some with a change.
func changed(change func(e *api.Execution)) api.Execution {
	e := some()
	change(&e)
	return e
}

// copied shares nothing with what it is a copy of.
func copied(e api.Execution) api.Execution {
	e.Events, e.From, e.Order = slices.Clone(e.Events), slices.Clone(e.From), slices.Clone(e.Order)
	for i := range e.Events {
		v := &e.Events[i]
		v.Addrs, v.Datas, v.Ctrls = slices.Clone(v.Addrs), slices.Clone(v.Datas), slices.Clone(v.Ctrls)
	}
	for i := range e.Order {
		e.Order[i] = slices.Clone(e.Order[i])
	}
	return e
}

// loads is an execution of a begin and so many events that load from it.
func loads(many int) api.Execution {
	e := api.Execution{Events: []api.Event{{Hart: -1, Kind: api.EvBegin}}, From: []int{-1}, Order: [][]int{{0}}}
	for range many {
		e.Events = append(e.Events, api.Event{Hart: 3, Kind: api.EvLoad})
		e.From = append(e.From, 0)
	}
	return e
}

// relations tells the pairs of all four, Po, Rf, Co, Fr.
func relations(e api.Execution) [4][]api.Pair {
	return [4][]api.Pair{events.Po(e), events.Rf(e), events.Co(e), events.Fr(e)}
}
