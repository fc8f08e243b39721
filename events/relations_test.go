package events_test

import (
	"math"
	"slices"
	"testing"

	"quadrille/api"
	"quadrille/events"
)

// p makes pairs of numbers by twos.
func p(numbers ...int) (l []api.Pair) {
	for two := range slices.Chunk(numbers, 2) {
		l = append(l, api.Pair{A: two[0], B: two[1]})
	}
	return l
}

// tell holds the four relations of an execution that may be against pairs.
func tell(t *testing.T, e api.Execution, po, rf, co, fr []api.Pair) {
	t.Helper()
	if err := events.Check(e); err != api.OK {
		t.Fatalf("it may not be: %v", err)
	}
	for i, want := range [][]api.Pair{po, rf, co, fr} {
		if got := relations(e)[i]; !slices.Equal(got, want) {
			t.Errorf("%s is %v, want %v", []string{"Po", "Rf", "Co", "Fr"}[i], got, want)
		}
	}
}

func TestP6_2Examples(t *testing.T) {
	e := api.Execution{
		Events: []api.Event{{Hart: -1, Kind: api.EvBegin}, {Kind: api.EvStore, Value: 1}, {Hart: 1, Kind: api.EvLoad, ReadValue: 1}},
		From:   []int{-1, -1, 1},
		Order:  [][]int{{0, 1}},
	}
	tell(t, e, nil, p(1, 2), p(0, 1), nil)
	e.From[2], e.Events[2].ReadValue = 0, 0
	tell(t, e, nil, p(0, 2), p(0, 1), p(2, 1))
	e.Events[2].ReadValue = 1
	for i, l := range relations(e) {
		if l != nil {
			t.Errorf("the third example's relation %d is %v", i, l)
		}
	}
}

// TestP6_2Some has EvBoths in the middle of an Order whose numbers do not rise.
func TestP6_2Some(t *testing.T) {
	po := p(2, 3, 2, 4, 2, 5, 2, 6, 3, 4, 3, 5, 3, 6, 4, 5, 4, 6, 5, 6, 7, 8, 7, 9, 7, 10, 8, 9, 8, 10, 9, 10)
	rf := p(0, 7, 1, 2, 4, 8, 7, 3, 7, 6)
	tell(t, some(), po, rf,
		p(0, 6, 0, 7, 0, 10, 1, 4, 6, 10, 7, 6, 7, 10),
		p(2, 4, 3, 6, 3, 10, 6, 10, 7, 6, 7, 10))
	e := some()
	e.Order[0] = []int{beginX, storeX, both0, both2}
	tell(t, e, po, rf,
		p(0, 6, 0, 7, 0, 10, 1, 4, 6, 7, 10, 6, 10, 7),
		p(2, 4, 7, 6, 7, 10)) // both0 and loadX read from the last one
	e.Order[0] = []int{beginX, both0, both2, storeX}
	tell(t, e, po, rf,
		p(0, 6, 0, 7, 0, 10, 1, 4, 6, 7, 6, 10, 7, 10),
		p(2, 4, 3, 10, 6, 10, 7, 6, 7, 10))
}

// TestP6_2Both has an EvBoth that reads from an EvBoth behind it, and one that reads from the begin.
func TestP6_2Both(t *testing.T) {
	e := api.Execution{
		Events: []api.Event{{Hart: -1, Kind: api.EvBegin}, {Kind: api.EvBoth, Value: 1, ReadValue: 3}, {Kind: api.EvBoth, Value: 2}, {Hart: 1, Kind: api.EvBoth, Value: 3, ReadValue: 2}},
		From:   []int{-1, 3, 0, 2},
		Order:  [][]int{{0, 1, 2, 3}},
	}
	tell(t, e, p(1, 2), p(0, 2, 2, 3, 3, 1), p(0, 1, 0, 2, 0, 3, 1, 2, 1, 3, 2, 3), p(2, 1, 2, 3))
	e.Order[0] = []int{0, 2, 3, 1}
	tell(t, e, p(1, 2), p(0, 2, 2, 3, 3, 1), p(0, 1, 0, 2, 0, 3, 2, 1, 2, 3, 3, 1), p(2, 1, 2, 3, 3, 1))
}

// TestP6_2Apart has relations of events that share neither a hart nor an address.
func TestP6_2Apart(t *testing.T) {
	e := api.Execution{
		Events: []api.Event{{Hart: -1, Kind: api.EvBegin}, {Hart: -1, Kind: api.EvBegin, Addr: 4}, {Hart: 1, Kind: api.EvLoad}, {Hart: 2, Kind: api.EvStore, Addr: 4}, {Hart: 3, Kind: api.EvFence}},
		From:   []int{-1, -1, 0, -1, -1},
		Order:  [][]int{{0}, {1, 3}},
	}
	tell(t, e, nil, p(0, 2), p(1, 3), nil)
}

// TestP6_2BeginAlone has an EvBegin of an address that no other event has, behind another one and between two.
func TestP6_2BeginAlone(t *testing.T) {
	e := api.Execution{
		Events: []api.Event{{Hart: -1, Kind: api.EvBegin}, {Hart: -1, Kind: api.EvBegin, Addr: 4}, {Kind: api.EvStore, Value: 2}, {Kind: api.EvBoth, ReadValue: 2}},
		From:   []int{-1, -1, -1, 2},
		Order:  [][]int{{0, 2, 3}, {1}},
	}
	tell(t, e, p(2, 3), p(2, 3), p(0, 2, 0, 3, 2, 3), nil)
	e = api.Execution{
		Events: []api.Event{{Hart: -1, Kind: api.EvBegin}, {Hart: -1, Kind: api.EvBegin, Addr: 4}, {Hart: -1, Kind: api.EvBegin, Addr: 8}, {Kind: api.EvLoad, Addr: 8}, {Kind: api.EvStore, Addr: 8, Value: 1}, {Hart: 1, Kind: api.EvLoad}},
		From:   []int{-1, -1, -1, 2, -1, 0},
		Order:  [][]int{{0}, {1}, {2, 4}},
	}
	tell(t, e, p(3, 4), p(0, 5, 2, 3), p(2, 4), p(3, 4))
}

func TestP6_2StoresLoads(t *testing.T) {
	for _, r := range []struct {
		kind          api.EventKind
		stores, loads bool
	}{
		{api.EvNone, false, false}, {api.EvLoad, false, true}, {api.EvStore, true, false}, {api.EvBoth, true, true}, {api.EvFence, false, false}, {api.EvBegin, true, false},
		{-1, false, false}, {6, false, false}, {math.MinInt, false, false}, {math.MaxInt, false, false},
	} {
		// Its Kind alone is asked: the other event may not be.
		for _, e := range []api.Event{{Kind: r.kind}, {Kind: r.kind, Hart: -5, Addr: 1, Value: 1, ReadValue: 2, Reserved: true, Pred: 9, Addrs: []int{-1}}} {
			if events.Stores(e) != r.stores || events.Loads(e) != r.loads {
				t.Errorf("Kind %d stores: %v, loads: %v", r.kind, events.Stores(e), events.Loads(e))
			}
		}
	}
}

// others tells changes of each part of some.
func others() []func(e *api.Execution) {
	l := []func(e *api.Execution){
		func(e *api.Execution) { e.Events = e.Events[:howMany-1] },
		func(e *api.Execution) { e.Events = append(e.Events, api.Event{}) },
		func(e *api.Execution) { e.Events = nil },
		func(e *api.Execution) { e.Events[loadX], e.Events[lrY] = e.Events[lrY], e.Events[loadX] },
		func(e *api.Execution) { e.From = e.From[:howMany-1] },
		func(e *api.Execution) { e.From = append(e.From, -1) },
		func(e *api.Execution) { e.From = nil },
		func(e *api.Execution) { e.From[0] = 0 },
		func(e *api.Execution) { e.From[storeX]-- },
		func(e *api.Execution) { e.Order = e.Order[:1] },
		func(e *api.Execution) { e.Order = append(e.Order, nil) },
		func(e *api.Execution) { e.Order = nil },
		func(e *api.Execution) { e.Order[0], e.Order[1] = e.Order[1], e.Order[0] },
		func(e *api.Execution) { e.Order[0] = e.Order[0][:3] },
		func(e *api.Execution) { e.Order[1] = append(e.Order[1], 0) },
		func(e *api.Execution) { e.Order[1] = nil },
		func(e *api.Execution) { e.Order[0][0]++ },
		func(e *api.Execution) { e.Order[1][1]-- },
	}
	for number := range howMany {
		for _, change := range []func(v *api.Event){
			func(v *api.Event) { v.Hart++ },
			func(v *api.Event) { v.Kind++ },
			func(v *api.Event) { v.Addr++ },
			func(v *api.Event) { v.Value++ },
			func(v *api.Event) { v.ReadValue-- },
			func(v *api.Event) { v.Aq = !v.Aq },
			func(v *api.Event) { v.Rl = !v.Rl },
			func(v *api.Event) { v.Pred++ },
			func(v *api.Event) { v.Succ-- },
			func(v *api.Event) { v.Reserved = !v.Reserved },
			func(v *api.Event) { v.Addrs = append([]int{0}, v.Addrs...) },
			func(v *api.Event) { v.Datas = append(v.Datas, 9) },
			func(v *api.Event) { v.Ctrls = append([]int{-1}, v.Ctrls[min(1, len(v.Ctrls)):]...) },
		} {
			l = append(l, on(number, change))
		}
	}
	return l
}

func TestP6_2Same(t *testing.T) {
	if !events.Same(some(), some()) {
		t.Error("two are the same, and are told to be others")
	}
	for i, change := range others() {
		e := changed(change)
		if events.Same(some(), e) || events.Same(e, some()) {
			t.Errorf("change %d leaves the same", i)
		}
		if !events.Same(e, changed(change)) { // whether they may be or not
			t.Errorf("change %d is not the same as itself", i)
		}
	}
	bare := api.Execution{Events: []api.Event{{}}, Order: [][]int{nil}}
	empty := api.Execution{Events: []api.Event{{Addrs: []int{}, Datas: []int{}, Ctrls: []int{}}}, From: []int{}, Order: [][]int{{}}}
	if !events.Same(bare, empty) || !events.Same(empty, bare) {
		t.Error("nil and empty are not the same")
	}
	if !events.Same(api.Execution{}, api.Execution{Events: []api.Event{}, From: []int{}, Order: [][]int{}}) {
		t.Error("nil and empty are not the same, with no event")
	}
}

// TestP6_2Kept asks all calls: what they are handed stays, spare room behind it included, and what they answer is their own no more.
func TestP6_2Kept(t *testing.T) {
	spare := func(l []int) []int { return append(append(l, 77, 78), 79)[:len(l)] }
	e := some()
	e.Events = append(e.Events, api.Event{Hart: 9})[:howMany]
	e.From, e.Order = spare(e.From), append(e.Order, []int{80})[:len(e.Order)]
	for i := range e.Order {
		e.Order[i] = spare(e.Order[i])
	}
	e.Events[scY].Datas = spare(e.Events[scY].Datas)
	first := relations(e)
	events.Check(e)
	events.Same(e, e)
	for _, l := range first {
		for i := range l {
			l[i] = api.Pair{A: 99, B: 99}
		}
	}
	if !events.Same(e, some()) || !slices.EqualFunc(relationsOf(e), relationsOf(some()), slices.Equal) {
		t.Error("an execution has changed")
	}
	if e.Events[:howMany+1][howMany].Hart != 9 || e.From[:howMany+1][howMany] != 77 || e.Order[:3][2][0] != 80 {
		t.Error("the room behind has changed")
	}
	for _, l := range [][]int{e.Order[0], e.Order[1], e.Events[scY].Datas} {
		if !slices.Equal(l[len(l):len(l)+3], []int{77, 78, 79}) {
			t.Errorf("the room behind %v has changed", l)
		}
	}
	arrows := p(1, 0, 0, 2)
	events.Acyclic(3, arrows[:1]...)
	if !slices.Equal(arrows, p(1, 0, 0, 2)) {
		t.Errorf("arrows have changed: %v", arrows)
	}
}

// relationsOf tells the four as a slice.
func relationsOf(e api.Execution) [][]api.Pair {
	l := relations(e)
	return l[:]
}
