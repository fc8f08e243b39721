package litmus_test

import (
	"math"
	"slices"
	"testing"

	"quadrille/api"
	"quadrille/events"
)

// begin is the EvBegin of a variable.
func begin(variable uint32) api.Event {
	return api.Event{Hart: -1, Kind: api.EvBegin, Addr: 4 * variable}
}

// holdEvents holds the events of a test, which are the same in each of its executions but for their values; those are 0.
func holdEvents(t *testing.T, text string, want ...api.Event) {
	t.Helper()
	l := all(parsed(t, text))
	if len(l) == 0 {
		t.Errorf("%q: no execution", text)
	}
	for _, e := range l {
		for i := range e.Events {
			e.Events[i].Value, e.Events[i].ReadValue = 0, 0
		}
		if !events.Same(api.Execution{Events: e.Events}, api.Execution{Events: want}) {
			t.Errorf("%q: %+v, want %+v", text, e.Events, want)
		}
	}
}

// TestP9_2Events has each Kind as an event, and what events hang on.
func TestP9_2Events(t *testing.T) {
	ld := func(addr uint32) api.Event { return api.Event{Kind: api.EvLoad, Addr: addr} }
	st := func(addr uint32) api.Event { return api.Event{Kind: api.EvStore, Addr: addr} }
	both := func(addr uint32) api.Event { return api.Event{Kind: api.EvBoth, Addr: addr} }
	fence := func(pred, succ int) api.Event { return api.Event{Kind: api.EvFence, Pred: pred, Succ: succ} }
	on := func(e api.Event, addrs, datas, ctrls []int) api.Event {
		e.Addrs, e.Datas, e.Ctrls = addrs, datas, ctrls
		return e
	}
	of := func(hart int, e api.Event) api.Event { e.Hart = hart; return e }
	marked := func(e api.Event, aq, rl bool) api.Event { e.Aq, e.Rl = aq, rl; return e }
	n := func(l ...int) []int { return l }
	for _, r := range []struct {
		text string
		want []api.Event
	}{
		{"hart\n", nil},
		{"hart\nif r1\nhart\nhart\n", nil},
		{"hart\nfence rw w\nhart\nfence r rw\n", []api.Event{fence(3, 1), of(1, fence(2, 3))}},
		{"hart\nr1 = x\n", []api.Event{begin(x), ld(0)}},
		{"hart\nx = 0\n", []api.Event{begin(x), st(0)}},
		{"hart\nr1 = swap x 0\n", []api.Event{begin(x), both(0)}},
		{"hart\nr1 = add x 0\n", []api.Event{begin(x), both(0)}},
		{"hart\nhart\nhart\nhart\nr1 = w\n", []api.Event{begin(w), of(3, ld(12))}},
		{"hart\nr1 = w\nhart\nr1 = y\n", []api.Event{begin(y), begin(w), ld(12), of(1, ld(4))}},
		{"hart\nr1 = w\nz = 0\nhart\nr1 = swap y 0\nr1 = add x 0\n", []api.Event{begin(x), begin(y), begin(z), begin(w), ld(12), st(8), of(1, both(4)), of(1, both(0))}},
		{"hart\nr1 = x aq\nr1 = x rl\nx = 0 aq\nx = 0 rl\nr1 = swap x 0 aq\nr1 = add x 0 aq rl\n", []api.Event{begin(x), marked(ld(0), true, false), marked(ld(0), false, true), marked(st(0), true, false), marked(st(0), false, true), marked(both(0), true, false), marked(both(0), true, true)}},
		// of a register that no event has loaded
		{"hart\nx = r1\nr1 = y by r2\nif r3\nx = 0 by r2\nfence rw rw\n", []api.Event{begin(x), begin(y), st(0), ld(4), st(0), fence(3, 3)}},
		// another thread's is another one
		{"hart\nr1 = x\nhart\ny = r1 by r1\nif r1\ny = 0\n", []api.Event{begin(x), begin(y), ld(0), of(1, st(4)), of(1, st(4))}},
		// data, by and if, each by itself, and together
		{"hart\nr1 = x\ny = r1\n", []api.Event{begin(x), begin(y), ld(0), on(st(4), nil, n(2), nil)}},
		{"hart\nr1 = x\ny = 0 by r1\n", []api.Event{begin(x), begin(y), ld(0), on(st(4), n(2), nil, nil)}},
		{"hart\nr1 = x\nif r1\ny = 0\n", []api.Event{begin(x), begin(y), ld(0), on(st(4), nil, nil, n(2))}},
		{"hart\nr1 = x\nif r1\nr2 = y by r1\nfence r r\nr3 = swap y r2 by r1\nr4 = add y r3 by r3\n", []api.Event{begin(x), begin(y), ld(0), on(ld(4), n(2), nil, n(2)), on(fence(2, 2), nil, nil, n(2)), on(both(4), n(2), n(3), n(2)), on(both(4), n(5), n(5), n(2))}},
		// of a register that two have loaded the last one counts: for an if, the last one ahead of it
		{"hart\nr1 = x\nr1 = y\nx = r1 by r1\nif r1\ny = 0\n", []api.Event{begin(x), begin(y), ld(0), ld(4), on(st(0), n(3), n(3), nil), on(st(4), nil, nil, n(3))}},
		{"hart\nr1 = x\nif r1\nr1 = y\nx = r1\n", []api.Event{begin(x), begin(y), ld(0), on(ld(4), nil, nil, n(2)), on(st(0), nil, n(3), n(2))}},
		{"hart\nif r1\nr1 = x\ny = 0\n", []api.Event{begin(x), begin(y), ld(0), st(4)}},
		// all ifs ahead, rising and each once
		{"hart\nr2 = x\nr1 = x\nif r1\nif r2\nif r1\nif r3\nif r2\ny = 0\n", []api.Event{begin(x), begin(y), ld(0), ld(0), on(st(4), nil, nil, n(2, 3))}},
		{"hart\nr1 = x\nif r1\nr1 = x\nif r1\nif r1\nr1 = x\ny = 0\n", []api.Event{begin(x), begin(y), ld(0), on(ld(0), nil, nil, n(2)), on(ld(0), nil, nil, n(2, 3)), on(st(4), nil, nil, n(2, 3))}},
		{"hart\nr1 = x\nif r1\nhart\nx = 0\n", []api.Event{begin(x), ld(0), of(1, st(0))}},
		// a step hangs on what its register was ahead of it
		{"hart\nr1 = swap x r1 by r1\nr1 = add x r1 by r1\n", []api.Event{begin(x), both(0), on(both(0), n(1), n(1), nil)}},
		{"hart\nr1 = x\nr1 = x by r1\nr1 = x by r1\n", []api.Event{begin(x), ld(0), on(ld(0), n(1), nil, nil), on(ld(0), n(2), nil, nil)}},
		{"hart\nr1 = swap x 0\nr2 = add y 0\nx = r1 by r2\n", []api.Event{begin(x), begin(y), both(0), both(4), on(st(0), n(3), n(2), nil)}},
		{"hart\nr1 = x\nr2 = x\nr3 = x\nr4 = x\nx = r4 by r3\nx = r2 by r1\n", []api.Event{begin(x), ld(0), ld(0), ld(0), ld(0), on(st(0), n(3), n(4), nil), on(st(0), n(1), n(2), nil)}},
	} {
		holdEvents(t, r.text, r.want...)
	}
}

// way is an execution, told by where it reads from, in which order stores come, what is loaded, what is stored (EvBegin and fences aside).
type way struct {
	from           []int
	order          [][]int
	loaded, stored []uint32
}

// holdAll holds the executions of a test, in their order.
func holdAll(t *testing.T, text string, want ...way) {
	t.Helper()
	l := all(parsed(t, text))
	if len(l) != len(want) {
		t.Fatalf("%q: %d executions, want %d: %v", text, len(l), len(want), l)
	}
	for i, e := range l {
		got := way{order: e.Order, from: e.From}
		for _, v := range e.Events {
			if events.Loads(v) {
				got.loaded = append(got.loaded, v.ReadValue)
			}
			if events.Stores(v) && v.Kind != api.EvBegin {
				got.stored = append(got.stored, v.Value)
			}
		}
		same := slices.Equal(got.from, want[i].from) && slices.EqualFunc(got.order, want[i].order, slices.Equal[[]int]) &&
			slices.Equal(got.loaded, want[i].loaded) && slices.Equal(got.stored, want[i].stored)
		if !same {
			t.Errorf("%q: %d is %v, want %v", text, i, got, want[i])
		}
		if err := events.Check(e); err != api.OK {
			t.Errorf("%q: %d may not be: %v", text, i, err)
		}
	}
}

// TestP9_2All has the executions of some tests, in their order.
func TestP9_2All(t *testing.T) {
	n := func(l ...int) []int { return l }
	o := func(l ...[]int) [][]int { return l }
	v := func(l ...uint32) []uint32 { return l }
	holdAll(t, "hart\n", way{})
	holdAll(t, "hart\nif r1\nhart\nfence rw rw\n", way{from: n(-1)})
	holdAll(t, "hart\nr1 = z\n", way{n(-1, 0), o(n(0)), v(0), nil})
	holdAll(t, "hart\nz = 7\n", way{n(-1, -1), o(n(0, 1)), nil, v(7)})
	holdAll(t, "hart\nr1 = x\nx = 5\n", // also from a store behind it
		way{n(-1, 0, -1), o(n(0, 2)), v(0), v(5)},
		way{n(-1, 2, -1), o(n(0, 2)), v(5), v(5)})
	// by rising From, then by rising Order
	holdAll(t, "hart\nx = 1\nhart\nx = 2\nr1 = x\n",
		way{n(-1, -1, -1, 0), o(n(0, 1, 2)), v(0), v(1, 2)},
		way{n(-1, -1, -1, 0), o(n(0, 2, 1)), v(0), v(1, 2)},
		way{n(-1, -1, -1, 1), o(n(0, 1, 2)), v(1), v(1, 2)},
		way{n(-1, -1, -1, 1), o(n(0, 2, 1)), v(1), v(1, 2)},
		way{n(-1, -1, -1, 2), o(n(0, 1, 2)), v(2), v(1, 2)},
		way{n(-1, -1, -1, 2), o(n(0, 2, 1)), v(2), v(1, 2)})
	// the first event's From goes ahead
	holdAll(t, "hart\nr1 = x\nr2 = y\nhart\ny = 3\nx = 4\n",
		way{n(-1, -1, 0, 1, -1, -1), o(n(0, 5), n(1, 4)), v(0, 0), v(3, 4)},
		way{n(-1, -1, 0, 4, -1, -1), o(n(0, 5), n(1, 4)), v(0, 3), v(3, 4)},
		way{n(-1, -1, 5, 1, -1, -1), o(n(0, 5), n(1, 4)), v(4, 0), v(3, 4)},
		way{n(-1, -1, 5, 4, -1, -1), o(n(0, 5), n(1, 4)), v(4, 3), v(3, 4)})
	// the first address's Order goes ahead, whichever is stored first
	holdAll(t, "hart\ny = 1\nx = 2\nhart\ny = 3\nx = 4\n",
		way{n(-1, -1, -1, -1, -1, -1), o(n(0, 3, 5), n(1, 2, 4)), nil, v(1, 2, 3, 4)},
		way{n(-1, -1, -1, -1, -1, -1), o(n(0, 3, 5), n(1, 4, 2)), nil, v(1, 2, 3, 4)},
		way{n(-1, -1, -1, -1, -1, -1), o(n(0, 5, 3), n(1, 2, 4)), nil, v(1, 2, 3, 4)},
		way{n(-1, -1, -1, -1, -1, -1), o(n(0, 5, 3), n(1, 4, 2)), nil, v(1, 2, 3, 4)})
	holdAll(t, "hart\nx = 1\nx = 2\nx = 3\n",
		way{n(-1, -1, -1, -1), o(n(0, 1, 2, 3)), nil, v(1, 2, 3)},
		way{n(-1, -1, -1, -1), o(n(0, 1, 3, 2)), nil, v(1, 2, 3)},
		way{n(-1, -1, -1, -1), o(n(0, 2, 1, 3)), nil, v(1, 2, 3)},
		way{n(-1, -1, -1, -1), o(n(0, 2, 3, 1)), nil, v(1, 2, 3)},
		way{n(-1, -1, -1, -1), o(n(0, 3, 1, 2)), nil, v(1, 2, 3)},
		way{n(-1, -1, -1, -1), o(n(0, 3, 2, 1)), nil, v(1, 2, 3)})
	// numbers of two digits rise as numbers
	holdAll(t, "hart\n"+"fence w w\nfence w w\nfence w w\nfence w w\nfence w w\nfence w w\nfence w w\nfence w w\nx = 1\nx = 2\n",
		way{n(-1, -1, -1, -1, -1, -1, -1, -1, -1, -1, -1), o(n(0, 9, 10)), nil, v(1, 2)},
		way{n(-1, -1, -1, -1, -1, -1, -1, -1, -1, -1, -1), o(n(0, 10, 9)), nil, v(1, 2)})
}

// TestP9_2Both has accesses that load and store: none reads from itself.
func TestP9_2Both(t *testing.T) {
	n := func(l ...int) []int { return l }
	o := func(l ...[]int) [][]int { return l }
	v := func(l ...uint32) []uint32 { return l }
	holdAll(t, "hart\nr1 = swap x 5\n", way{n(-1, 0), o(n(0, 1)), v(0), v(5)})
	holdAll(t, "hart\nr1 = add x 5\n", way{n(-1, 0), o(n(0, 1)), v(0), v(5)})
	holdAll(t, "hart\nr1 = swap x 5\nhart\nr1 = swap x 6\n", // two may read from each other: no value goes round
		way{n(-1, 0, 0), o(n(0, 1, 2)), v(0, 0), v(5, 6)},
		way{n(-1, 0, 0), o(n(0, 2, 1)), v(0, 0), v(5, 6)},
		way{n(-1, 0, 1), o(n(0, 1, 2)), v(0, 5), v(5, 6)},
		way{n(-1, 0, 1), o(n(0, 2, 1)), v(0, 5), v(5, 6)},
		way{n(-1, 2, 0), o(n(0, 1, 2)), v(6, 0), v(5, 6)},
		way{n(-1, 2, 0), o(n(0, 2, 1)), v(6, 0), v(5, 6)},
		way{n(-1, 2, 1), o(n(0, 1, 2)), v(6, 5), v(5, 6)},
		way{n(-1, 2, 1), o(n(0, 2, 1)), v(6, 5), v(5, 6)})
	holdAll(t, "hart\nr1 = add x 5\nhart\nr1 = add x 4294967295\n", // sums modulo 2^32; of two that read from each other the values go round
		way{n(-1, 0, 0), o(n(0, 1, 2)), v(0, 0), v(5, math.MaxUint32)},
		way{n(-1, 0, 0), o(n(0, 2, 1)), v(0, 0), v(5, math.MaxUint32)},
		way{n(-1, 0, 1), o(n(0, 1, 2)), v(0, 5), v(5, 4)},
		way{n(-1, 0, 1), o(n(0, 2, 1)), v(0, 5), v(5, 4)},
		way{n(-1, 2, 0), o(n(0, 1, 2)), v(math.MaxUint32, 0), v(4, math.MaxUint32)},
		way{n(-1, 2, 0), o(n(0, 2, 1)), v(math.MaxUint32, 0), v(4, math.MaxUint32)})
	holdAll(t, "hart\nr1 = swap x 5\nr1 = y\nhart\nr2 = y\n", way{n(-1, -1, 0, 1, 1), o(n(0, 2), n(1)), v(0, 0, 0), v(5)})
}

// TestP9_2Data has values that come of registers.
func TestP9_2Data(t *testing.T) {
	n := func(l ...int) []int { return l }
	o := func(l ...[]int) [][]int { return l }
	v := func(l ...uint32) []uint32 { return l }
	holdAll(t, "hart\nx = r1\n", way{n(-1, -1), o(n(0, 1)), nil, v(0)})
	holdAll(t, "hart\nr1 = x\ny = r1\nhart\nx = 9\n",
		way{n(-1, -1, 0, -1, -1), o(n(0, 4), n(1, 3)), v(0), v(0, 9)},
		way{n(-1, -1, 4, -1, -1), o(n(0, 4), n(1, 3)), v(9), v(9, 9)})
	holdAll(t, "hart\nr1 = swap y 1\nr1 = swap y r1\n", // the second one's value hangs on the first one's: it may not be what that reads
		way{n(-1, 0, 0), o(n(0, 1, 2)), v(0, 0), v(1, 0)},
		way{n(-1, 0, 0), o(n(0, 2, 1)), v(0, 0), v(1, 0)},
		way{n(-1, 0, 1), o(n(0, 1, 2)), v(0, 1), v(1, 0)},
		way{n(-1, 0, 1), o(n(0, 2, 1)), v(0, 1), v(1, 0)})
	holdAll(t, "hart\nr1 = add x 3\nr2 = add x r1\n",
		way{n(-1, 0, 0), o(n(0, 1, 2)), v(0, 0), v(3, 0)},
		way{n(-1, 0, 0), o(n(0, 2, 1)), v(0, 0), v(3, 0)},
		way{n(-1, 0, 1), o(n(0, 1, 2)), v(0, 3), v(3, 3)},
		way{n(-1, 0, 1), o(n(0, 2, 1)), v(0, 3), v(3, 3)})
	holdAll(t, "hart\nr1 = x\nr2 = add y r1\nr3 = swap z r2\nhart\nx = 4294967295\ny = 7\n", // a chain, and a sum of two that are loaded
		way{n(-1, -1, -1, 0, 1, 2, -1, -1), o(n(0, 6), n(1, 4, 7), n(2, 5)), v(0, 0, 0), v(0, 0, math.MaxUint32, 7)},
		way{n(-1, -1, -1, 0, 1, 2, -1, -1), o(n(0, 6), n(1, 7, 4), n(2, 5)), v(0, 0, 0), v(0, 0, math.MaxUint32, 7)},
		way{n(-1, -1, -1, 0, 7, 2, -1, -1), o(n(0, 6), n(1, 4, 7), n(2, 5)), v(0, 7, 0), v(7, 7, math.MaxUint32, 7)},
		way{n(-1, -1, -1, 0, 7, 2, -1, -1), o(n(0, 6), n(1, 7, 4), n(2, 5)), v(0, 7, 0), v(7, 7, math.MaxUint32, 7)},
		way{n(-1, -1, -1, 6, 1, 2, -1, -1), o(n(0, 6), n(1, 4, 7), n(2, 5)), v(math.MaxUint32, 0, 0), v(math.MaxUint32, 0, math.MaxUint32, 7)},
		way{n(-1, -1, -1, 6, 1, 2, -1, -1), o(n(0, 6), n(1, 7, 4), n(2, 5)), v(math.MaxUint32, 0, 0), v(math.MaxUint32, 0, math.MaxUint32, 7)},
		way{n(-1, -1, -1, 6, 7, 2, -1, -1), o(n(0, 6), n(1, 4, 7), n(2, 5)), v(math.MaxUint32, 7, 0), v(6, 7, math.MaxUint32, 7)},
		way{n(-1, -1, -1, 6, 7, 2, -1, -1), o(n(0, 6), n(1, 7, 4), n(2, 5)), v(math.MaxUint32, 7, 0), v(6, 7, math.MaxUint32, 7)})
}

// TestP9_2Round has tests of whose ways some have no execution, as values go round.
func TestP9_2Round(t *testing.T) {
	n := func(l ...int) []int { return l }
	o := func(l ...[]int) [][]int { return l }
	v := func(l ...uint32) []uint32 { return l }
	holdAll(t, "hart\nr1 = x\ny = r1\nhart\nr1 = y\nx = r1\n",
		way{n(-1, -1, 0, -1, 1, -1), o(n(0, 5), n(1, 3)), v(0, 0), v(0, 0)},
		way{n(-1, -1, 0, -1, 3, -1), o(n(0, 5), n(1, 3)), v(0, 0), v(0, 0)},
		way{n(-1, -1, 5, -1, 1, -1), o(n(0, 5), n(1, 3)), v(0, 0), v(0, 0)})
	holdAll(t, "hart\nr1 = x\nx = r1\n", way{n(-1, 0, -1), o(n(0, 2)), v(0), v(0)})
	holdAll(t, "hart\nr1 = x\nx = 1\nhart\nx = r1\n", // the other thread's r1 is another one
		way{n(-1, 0, -1, -1), o(n(0, 2, 3)), v(0), v(1, 0)},
		way{n(-1, 0, -1, -1), o(n(0, 3, 2)), v(0), v(1, 0)},
		way{n(-1, 2, -1, -1), o(n(0, 2, 3)), v(1), v(1, 0)},
		way{n(-1, 2, -1, -1), o(n(0, 3, 2)), v(1), v(1, 0)},
		way{n(-1, 3, -1, -1), o(n(0, 2, 3)), v(0), v(1, 0)},
		way{n(-1, 3, -1, -1), o(n(0, 3, 2)), v(0), v(1, 0)})
	for text, want := range map[string]int{
		"hart\nr1 = x\nif r1\ny = 1 by r1\nhart\nr1 = y\nif r1\nx = 1 by r1\n":                 4,        // by no data nothing goes round
		"hart\nr1 = x\ny = r1\nhart\nr1 = y\nz = r1\nhart\nr1 = z\nx = r1\n":                   7,        // three on a circle
		"hart\nr1 = x\ny = r1\nhart\nr1 = y\nx = r1\nhart\nr1 = y\n":                           3 * 2,    // one that is not on it
		"hart\nr1 = x\ny = r1\nhart\nr1 = y\nx = r1\nhart\nr1 = y\nz = r1\n":                   3 * 2,    // one that hangs on it
		"hart\nr1 = add x 0\nhart\nr1 = add x 0\nhart\nr1 = add x 0\n":                         16 * 6,   // 3^3 ways but those that go round
		"hart\nr1 = add x 0\nhart\nr1 = add x 0\nhart\nr1 = add x 0\nhart\nr1 = add x 0\n":     125 * 24, // 4^4 ways but those
		"hart\nr1 = swap x 0\nhart\nr1 = swap x 0\nhart\nr1 = swap x 0\nhart\nr1 = swap x 0\n": 256 * 24, // none of them goes round
		"hart\nr1 = x\nr2 = add y r1\nhart\nr1 = y\nx = r1\n":                                  3,        // an add's data
		"hart\nr1 = x\nr2 = add y r3\nhart\nr1 = y\nx = r1\n":                                  4,        // an add without data
		"hart\nr1 = x\nr1 = y\nx = r1\n":                                                       2,        // the last one's data alone
		"hart\nr1 = x\nr2 = swap x r1\n":                                                       1,        // a swap's data
		"hart\nr1 = x\nr2 = swap x r2\n":                                                       2,        // a swap without data
		"hart\nr1 = x\nr2 = swap x 0\nr3 = swap x r2\n":                                        3 * 1 * 2 * 2,
	} {
		if got := len(all(parsed(t, text))); got != want {
			t.Errorf("%q: %d executions, want %d", text, got, want)
		}
	}
}
