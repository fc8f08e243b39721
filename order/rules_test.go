package order_test

import (
	"fmt"
	"testing"

	"quadrille/api"
)

// rules makes the numbers of rules; none is nil.
func rules(l ...int) []int { return l }

// accesses tells the three kinds of events that rules are of.
func accesses(addr uint32) []api.Event {
	return []api.Event{load(addr), store(addr), both(addr)}
}

func TestP7_1Examples(t *testing.T) {
	hold(t,
		row{"load x, store x", one(load(wordX), store(wordX)), e0, e1, rules(1)},
		row{"store x, load x from it", execution(reads{e1, e0}, store(wordX), load(wordX)), e0, e1, nil},
		row{"load x, load y", one(load(wordX), load(wordY)), e0, e1, nil},
		row{"load x, load y with a fence of reads", one(load(wordX), fence(2, 2), load(wordY)), e0, e2, rules(4)},
		row{"load x Aq, load y", one(aq(load(wordX)), load(wordY)), e0, e1, rules(5)},
		row{"lr x, sc x", one(lr(wordX), sc(wordX)), e0, e1, rules(1, 8)},
	)
}

func TestP7_1Rule1(t *testing.T) {
	hold(t,
		row{"store, store", one(store(wordX), store(wordX)), e0, e1, rules(1)},
		row{"EvBoth, store", one(both(wordX), store(wordX)), e0, e1, rules(1)},
		row{"load, EvBoth", one(load(wordX), both(wordX)), e0, e1, rules(1)},
		row{"store, EvBoth", one(store(wordX), both(wordX)), e0, e1, rules(1)},
		row{"EvBoth, EvBoth", one(both(wordX), both(wordX)), e0, e1, rules(1)},
		row{"another word", one(store(wordY), load(wordY), store(wordY)), e1, e2, rules(1)},
		row{"a store between", one(load(wordX), store(wordX), store(wordX)), e0, e2, rules(1)},
		row{"two addresses", one(load(wordX), store(wordY)), e0, e1, nil},
		row{"two addresses, both store", one(store(wordY), both(wordX)), e0, e1, nil},
		row{"b loads alone", one(store(wordX), load(wordX)), e0, e1, nil},
		row{"both load alone", one(load(wordX), load(wordX)), e0, e1, nil},
		row{"two harts", one(load(wordX), of(1, store(wordX))), e0, e1, nil},
		row{"two harts, the others between", one(load(wordX), of(1, load(wordX)), of(2, store(wordX))), e0, e2, nil},
		row{"b ahead of a", one(store(wordX), load(wordX)), e1, e0, nil},
		row{"b ahead of a, both store", one(both(wordX), both(wordX)), e1, e0, nil},
		row{"one event", one(store(wordX)), e0, e0, nil},
		row{"one EvBoth", one(both(wordX)), e0, e0, nil},
		row{"an EvBegin as a", one(store(wordX)), beginX, e0, nil},
		row{"an EvBegin as b", one(store(wordX)), e0, beginX, nil},
		row{"an EvBegin twice", one(store(wordX)), beginX, beginX, nil},
		row{"a fence as a, whose Addr is 0", one(fence(3, 3), store(wordX)), e0, e1, nil},
		row{"a fence as b", one(load(wordX), fence(3, 3)), e0, e1, nil},
	)
}

func TestP7_1Rule2(t *testing.T) {
	other := of(1, store(wordX)) // stands behind the others
	hold(t,
		row{"loads of two stores", execution(reads{e1, e2}, load(wordX), load(wordX), other), e0, e1, rules(2)},
		row{"the other way round", execution(reads{e0, e2}, load(wordX), load(wordX), other), e0, e1, rules(2)},
		row{"two stores of one value, no EvBegin", execution(reads{e0, e2, e1, e3}, load(wordX), load(wordX), other, of(2, store(wordX))), e0, e1, rules(2)},
		row{"a load between", execution(reads{e2, e3}, load(wordX), load(wordX), load(wordX), other), e0, e2, rules(2)},
		row{"a store of another word between", execution(reads{e2, e3}, load(wordX), store(wordY), load(wordX), other), e0, e2, rules(2)},
		row{"an EvBoth of another word between", execution(reads{e2, e3}, load(wordX), both(wordY), load(wordX), other), e0, e2, rules(2)},
		row{"a fence of none between", execution(reads{e2, e3}, load(wordX), fence(0, 0), load(wordX), other), e0, e2, rules(2)},
		row{"stores ahead and behind", execution(reads{e1, e0, e2, e4}, store(wordX), load(wordX), load(wordX), store(wordX), other), e1, e2, rules(2)},
		row{"EvBoth, a load", execution(reads{e1, e2}, both(wordX), load(wordX), other), e0, e1, rules(2)},
		row{"EvBoth, a load of it", execution(reads{e1, e0}, both(wordX), load(wordX)), e0, e1, rules(2, 3)},
		row{"a load, EvBoth", execution(reads{e1, e2}, load(wordX), both(wordX), other), e0, e1, rules(1, 2)},
		row{"a load of the EvBoth behind it", execution(reads{e0, e1}, load(wordX), both(wordX)), e0, e1, rules(1, 2)},
		row{"EvBoth, EvBoth", execution(reads{e1, e2}, both(wordX), both(wordX), other), e0, e1, rules(1, 2)},
		row{"one EvBegin", one(load(wordX), load(wordX)), e0, e1, nil},
		row{"one store", execution(reads{e0, e2, e1, e2}, load(wordX), load(wordX), other), e0, e1, nil},
		row{"one store, EvBoth", execution(reads{e0, e2, e1, e2}, both(wordX), load(wordX), other), e0, e1, nil},
		row{"two addresses", execution(reads{e0, e2}, load(wordX), load(wordY), other), e0, e1, nil},
		row{"a store between", execution(reads{e2, e3}, load(wordX), store(wordX), load(wordX), other), e0, e2, nil},
		row{"a store between that is read from", execution(reads{e2, e1}, load(wordX), store(wordX), load(wordX)), e0, e2, nil},
		row{"an EvBoth between", execution(reads{e2, e3}, load(wordX), both(wordX), load(wordX), other), e0, e2, nil},
		row{"a store between, far from both", execution(reads{e4, e5}, load(wordX), load(wordX), store(wordX), load(wordX), load(wordX), other), e0, e4, nil},
		row{"a stores alone", execution(reads{e1, e2}, store(wordX), load(wordX), other), e0, e1, nil},
		row{"b stores alone", one(load(wordX), store(wordX), other), e0, e1, rules(1)},
		row{"two harts", execution(reads{e1, e2}, load(wordX), of(1, load(wordX)), other), e0, e1, nil},
		row{"b ahead of a", execution(reads{e1, e2}, load(wordX), load(wordX), other), e1, e0, nil},
		row{"one event", one(load(wordX), load(wordX), other), e0, e0, nil},
	)
}

func TestP7_1Rule3(t *testing.T) {
	hold(t,
		row{"EvBoth, a store, a load of the EvBoth", execution(reads{e2, e0}, both(wordX), store(wordX), load(wordX)), e0, e2, rules(3)},
		row{"sc, a load of it", execution(reads{e1, e0}, sc(wordX), load(wordX)), e0, e1, rules(3)},
		row{"sc, lr of it", execution(reads{e1, e0}, sc(wordX), lr(wordX)), e0, e1, rules(3)},
		row{"sc, EvBoth of it", execution(reads{e1, e0}, sc(wordX), both(wordX)), e0, e1, rules(1, 3)},
		row{"EvBoth, EvBoth of it", execution(reads{e1, e0}, both(wordX), both(wordX)), e0, e1, rules(1, 2, 3)},
		row{"a plain store", execution(reads{e1, e0}, store(wordX), load(wordX)), e0, e1, nil},
		row{"an EvBegin", execution(reads{e0, beginX}, load(wordX)), beginX, e0, nil},
		row{"sc, a load of another one", execution(reads{e1, e2}, sc(wordX), load(wordX), of(1, sc(wordX))), e0, e1, nil},
		row{"sc, a load of the EvBegin", one(sc(wordX), load(wordX)), e0, e1, nil},
		row{"sc, sc, a load of the second one", execution(reads{e2, e1}, sc(wordX), sc(wordX), load(wordX)), e0, e2, nil},
		row{"EvBoth, a store, a load of the store", execution(reads{e2, e1}, both(wordX), store(wordX), load(wordX)), e0, e2, nil},
		row{"lr, a load", one(lr(wordX), load(wordX)), e0, e1, nil},
		row{"sc, a store", one(sc(wordX), store(wordX)), e0, e1, rules(1)},
		row{"two addresses", one(sc(wordX), load(wordY)), e0, e1, nil},
		row{"two harts", execution(reads{e1, e0}, sc(wordX), of(1, load(wordX))), e0, e1, nil},
		row{"two harts, EvBoth", execution(reads{e1, e0}, both(wordX), of(1, both(wordX))), e0, e1, nil},
		row{"b ahead of a", execution(reads{e0, e1}, load(wordX), sc(wordX)), e1, e0, nil},
		row{"b ahead of a, EvBoth", execution(reads{e0, e1}, load(wordX), both(wordX)), e1, e0, nil},
	)
}

// TestP7_1Rule4Sets has all fences between all kinds of events.
func TestP7_1Rule4Sets(t *testing.T) {
	// in tells of each kind of accesses which sets have it.
	in := [][4]bool{
		{false, false, true, true}, // a load: reads
		{false, true, false, true}, // a store: writes
		{false, true, true, true},  // an EvBoth: either
	}
	for pred := range 4 {
		for succ := range 4 {
			for i, a := range accesses(wordX) {
				for j, b := range accesses(wordY) {
					want := rules()
					if in[i][pred] && in[j][succ] {
						want = rules(4)
					}
					name := fmt.Sprintf("fence %d, %d, of %d and %d", pred, succ, a.Kind, b.Kind)
					hold(t, row{name, one(a, fence(pred, succ), b), e0, e2, want})
				}
			}
		}
	}
}

func TestP7_1Rule4(t *testing.T) {
	all := fence(3, 3)
	hold(t,
		row{"one word", one(load(wordX), all, store(wordX)), e0, e2, rules(1, 4)},
		row{"a store, a load of it", execution(reads{e2, e0}, store(wordX), all, load(wordX)), e0, e2, rules(4)},
		row{"far from both", one(load(wordX), load(wordZ), all, load(wordZ), store(wordY)), e0, e4, rules(4)},
		row{"behind a fence that keeps nothing", one(load(wordX), fence(1, 1), fence(2, 2), load(wordY)), e0, e3, rules(4)},
		row{"ahead of a fence that keeps nothing", one(load(wordX), fence(2, 2), fence(1, 1), load(wordY)), e0, e3, rules(4)},
		row{"ahead of both", one(all, load(wordX), load(wordY)), e1, e2, nil},
		row{"behind both", one(load(wordX), load(wordY), all), e0, e1, nil},
		row{"one half each", one(load(wordX), fence(2, 0), fence(0, 2), load(wordY)), e0, e3, nil},
		row{"one half each, of more", one(load(wordX), fence(2, 1), fence(1, 2), load(wordY)), e0, e3, nil},
		row{"two harts, behind a", one(load(wordX), all, of(1, load(wordY))), e0, e2, nil},
		row{"two harts, ahead of b", one(load(wordX), of(1, all), of(1, load(wordY))), e0, e2, nil},
		row{"of a third hart", one(load(wordX), of(1, all), of(2, load(wordY))), e0, e2, nil},
		row{"b ahead of a", one(load(wordX), all, load(wordY)), e2, e0, nil},
		row{"the fence as a", one(load(wordX), all, all, load(wordY)), e1, e3, nil},
		row{"the fence as b", one(load(wordX), all, all, load(wordY)), e0, e2, nil},
		row{"an EvBegin as a", one(all, load(wordX)), beginX, e1, nil},
		row{"a load between", one(load(wordX), load(wordZ), load(wordY)), e0, e2, nil},
	)
}

func TestP7_1Rule5(t *testing.T) {
	for _, a := range accesses(wordX) {
		for _, b := range accesses(wordY) {
			name := fmt.Sprintf("of %d and %d", a.Kind, b.Kind)
			hold(t,
				row{name, one(aq(a), b), e0, e1, rules(5)},
				row{name + ", far", one(aq(a), load(wordZ), fence(0, 0), b), e0, e3, rules(5)},
				row{name + ", two harts", one(aq(a), of(1, b)), e0, e1, nil},
				row{name + ", b ahead of a", one(b, aq(a)), e1, e0, nil},
				row{name + ", b has it", one(a, aq(b)), e0, e1, nil},
				row{name + ", one between has it", one(a, aq(load(wordZ)), b), e0, e2, nil},
			)
		}
	}
	hold(t,
		row{"one event", one(aq(load(wordX))), e0, e0, nil},
		row{"a fence as b", one(aq(load(wordX)), fence(3, 3)), e0, e1, nil},
		row{"an EvBegin as b", one(aq(load(wordX))), e0, beginX, nil},
	)
}

func TestP7_1Rule6(t *testing.T) {
	for _, a := range accesses(wordX) {
		for _, b := range accesses(wordY) {
			name := fmt.Sprintf("of %d and %d", a.Kind, b.Kind)
			hold(t,
				row{name, one(a, rl(b)), e0, e1, rules(6)},
				row{name + ", far", one(a, load(wordZ), fence(0, 0), rl(b)), e0, e3, rules(6)},
				row{name + ", two harts", one(a, of(1, rl(b))), e0, e1, nil},
				row{name + ", b ahead of a", one(rl(b), a), e1, e0, nil},
				row{name + ", a has it", one(rl(a), b), e0, e1, nil},
				row{name + ", one between has it", one(a, rl(load(wordZ)), b), e0, e2, nil},
			)
		}
	}
	hold(t,
		row{"one event", one(rl(load(wordX))), e0, e0, nil},
		row{"a fence as a", one(fence(3, 3), rl(load(wordX))), e0, e1, nil},
		row{"an EvBegin as a", one(rl(load(wordX))), beginX, e0, nil},
	)
}

// marked is an event with Aq, Rl by the bits of a number.
func marked(e api.Event, bits int) api.Event {
	e.Aq, e.Rl = bits&1 != 0, bits&2 != 0
	return e
}

// TestP7_1Rule7 has all kinds of events with all of Aq and Rl: rules 5 and 6 hold, too, where they do.
func TestP7_1Rule7(t *testing.T) {
	kinds := func(addr uint32) []api.Event {
		return []api.Event{load(addr), store(addr), both(addr), lr(addr), sc(addr)}
	}
	for i, a := range kinds(wordX) {
		for j, b := range kinds(wordY) {
			for first := range 4 {
				for second := range 4 {
					want := rules()
					if first&1 != 0 {
						want = append(want, 5)
					}
					if second&2 != 0 {
						want = append(want, 6)
					}
					if i >= 2 && j >= 2 && first != 0 && second != 0 {
						want = append(want, 7)
					}
					name := fmt.Sprintf("kinds %d, %d with %d, %d", i, j, first, second)
					hold(t,
						row{name, one(marked(a, first), marked(b, second)), e0, e1, want},
						row{name + ", two harts", one(marked(a, first), of(1, marked(b, second))), e0, e1, nil},
						row{name + ", b ahead of a", one(marked(b, second), marked(a, first)), e1, e0, nil},
					)
				}
			}
		}
	}
	hold(t,
		row{"one event", one(marked(both(wordX), 3)), e0, e0, nil},
		row{"far", one(rl(both(wordX)), load(wordZ), aq(both(wordY))), e0, e2, rules(7)},
		row{"of one between", one(rl(both(wordX)), aq(both(wordZ)), both(wordY)), e0, e2, nil},
	)
}

func TestP7_1Rule8(t *testing.T) {
	hold(t,
		row{"a store between", one(lr(wordX), store(wordX), sc(wordX)), e0, e2, rules(1, 8)},
		row{"a load between", one(lr(wordX), load(wordX), sc(wordX)), e0, e2, rules(1, 8)},
		row{"an EvBoth between", one(lr(wordX), both(wordX), sc(wordX)), e0, e2, rules(1, 8)},
		row{"a fence between", one(lr(wordX), fence(0, 0), sc(wordX)), e0, e2, rules(1, 8)},
		row{"two lrs, the last one", one(lr(wordX), lr(wordX), sc(wordX)), e1, e2, rules(1, 8)},
		row{"an lr of another word ahead", one(lr(wordY), lr(wordX), sc(wordX)), e1, e2, rules(1, 8)},
		row{"a pair ahead", one(lr(wordX), sc(wordX), lr(wordX), sc(wordX)), e2, e3, rules(1, 8)},
		row{"two lrs, the first one", one(lr(wordX), lr(wordX), sc(wordX)), e0, e2, rules(1)},
		row{"an lr of another word between", one(lr(wordX), lr(wordY), sc(wordX)), e0, e2, rules(1)},
		row{"the one between", one(lr(wordX), lr(wordY), sc(wordX)), e1, e2, nil},
		row{"an sc between", one(lr(wordX), sc(wordX), sc(wordX)), e0, e2, rules(1)},
		row{"an sc of another word between", one(lr(wordX), sc(wordY), sc(wordX)), e0, e2, rules(1)},
		row{"a pair between", one(lr(wordX), lr(wordY), sc(wordY), sc(wordX)), e0, e3, rules(1)},
		row{"of two pairs, the first lr and the last sc", one(lr(wordX), sc(wordX), lr(wordX), sc(wordX)), e0, e3, rules(1)},
		row{"two addresses", one(lr(wordX), sc(wordY)), e0, e1, nil},
		row{"no lr", one(load(wordX), sc(wordX)), e0, e1, rules(1)},
		row{"no sc", one(lr(wordX), store(wordX)), e0, e1, rules(1)},
		row{"EvBoth as a", one(both(wordX), sc(wordX)), e0, e1, rules(1)},
		row{"EvBoth as b", one(lr(wordX), both(wordX)), e0, e1, rules(1)},
		row{"two scs", one(sc(wordX), sc(wordX)), e0, e1, rules(1)},
		row{"two lrs", one(lr(wordX), lr(wordX)), e0, e1, nil},
		row{"sc, lr", one(sc(wordX), lr(wordX)), e0, e1, nil},
		row{"two harts", one(lr(wordX), of(1, sc(wordX))), e0, e1, nil},
		row{"b ahead of a", one(sc(wordX), lr(wordX)), e1, e0, nil},
		row{"an EvBegin as a", one(sc(wordX)), beginX, e0, nil},
	)
}

func TestP7_1Rule9(t *testing.T) {
	for _, a := range []api.Event{load(wordX), both(wordX), lr(wordX)} {
		for _, b := range accesses(wordY) {
			name := fmt.Sprintf("of %d and %d", a.Kind, b.Kind)
			hold(t,
				row{name, one(a, addrs(b, e0)), e0, e1, rules(9)},
				row{name + ", among others", one(load(wordZ), a, load(wordZ), addrs(b, e0, e1, e2)), e1, e3, rules(9)},
				row{name + ", on others", one(load(wordZ), a, load(wordZ), addrs(b, e0, e2)), e1, e3, nil},
				row{name + ", not hanging", one(a, b), e0, e1, nil},
				row{name + ", another one hangs", one(a, b, addrs(load(wordZ), e0)), e0, e1, nil},
				row{name + ", two harts", one(of(1, a), of(2, load(wordX)), of(2, addrs(b, e1))), e0, e2, nil},
				row{name + ", b ahead of a", one(a, addrs(b, e0)), e1, e0, nil},
			)
		}
	}
}

func TestP7_1Rule10(t *testing.T) {
	for _, a := range []api.Event{load(wordX), both(wordX), lr(wordX)} {
		for _, b := range []api.Event{store(wordY), both(wordY), sc(wordY)} {
			name := fmt.Sprintf("of %d and %d", a.Kind, b.Kind)
			hold(t,
				row{name, one(a, datas(b, e0)), e0, e1, rules(10)},
				row{name + ", among others", one(load(wordZ), a, load(wordZ), datas(b, e0, e1, e2)), e1, e3, rules(10)},
				row{name + ", on others", one(load(wordZ), a, load(wordZ), datas(b, e0, e2)), e1, e3, nil},
				row{name + ", not hanging", one(a, b), e0, e1, nil},
				row{name + ", another one hangs", one(a, b, datas(store(wordZ), e0)), e0, e1, nil},
				row{name + ", b ahead of a", one(a, datas(b, e0)), e1, e0, nil},
			)
		}
	}
}

func TestP7_1Rule11(t *testing.T) {
	for _, a := range []api.Event{load(wordX), both(wordX), lr(wordX)} {
		for _, b := range []api.Event{store(wordY), both(wordY), sc(wordY)} {
			name := fmt.Sprintf("of %d and %d", a.Kind, b.Kind)
			hold(t,
				row{name, one(a, ctrls(b, e0)), e0, e1, rules(11)},
				row{name + ", among others", one(load(wordZ), a, load(wordZ), ctrls(b, e0, e1, e2)), e1, e3, rules(11)},
				row{name + ", on others", one(load(wordZ), a, load(wordZ), ctrls(b, e0, e2)), e1, e3, nil},
				row{name + ", not hanging", one(a, b), e0, e1, nil},
				row{name + ", another one hangs", one(a, b, ctrls(store(wordZ), e0)), e0, e1, nil},
				row{name + ", b ahead of a", one(a, ctrls(b, e0)), e1, e0, nil},
				row{name + ", all three ways", one(a, addrs(datas(ctrls(b, e0), e0), e0)), e0, e1, rules(9, 10, 11)},
			)
		}
		hold(t,
			row{"b loads", one(a, ctrls(load(wordY), e0)), e0, e1, nil},
			row{"b is an lr", one(a, ctrls(lr(wordY), e0)), e0, e1, nil},
			row{"a fence as b", one(a, ctrls(fence(3, 3), e0)), e0, e1, nil},
			row{"a fence between", one(a, ctrls(fence(0, 0), e0), store(wordY)), e0, e2, nil},
		)
	}
}

// TestP7_1Rule12 has an event that loads, a store that hangs on it, and a load of that store.
func TestP7_1Rule12(t *testing.T) {
	fromIt := reads{e2, e1}
	for _, a := range []api.Event{load(wordX), both(wordX), lr(wordX)} {
		for _, m := range []api.Event{store(wordY), both(wordY), sc(wordY)} {
			name := fmt.Sprintf("of %d by %d", a.Kind, m.Kind)
			hold(t,
				row{name + ", data", execution(fromIt, a, datas(m, e0), load(wordY)), e0, e2, rules(12)},
				row{name + ", address", execution(fromIt, a, addrs(m, e0), load(wordY)), e0, e2, rules(12)},
				row{name + ", both ways", execution(fromIt, a, addrs(datas(m, e0), e0), load(wordY)), e0, e2, rules(12)},
				row{name + ", EvBoth as b", execution(fromIt, a, datas(m, e0), both(wordY)), e0, e2, rules(12)},
				row{name + ", address, EvBoth as b", execution(fromIt, a, addrs(m, e0), both(wordY)), e0, e2, rules(12, 13)},
				row{name + ", branch", execution(fromIt, a, ctrls(m, e0), load(wordY)), e0, e2, nil},
				row{name + ", not hanging", execution(fromIt, a, m, load(wordY)), e0, e2, nil},
				row{name + ", b reads elsewhere", one(a, addrs(datas(m, e0), e0), load(wordY)), e0, e2, nil},
				row{name + ", b reads from another hart", execution(reads{e2, e3}, a, datas(m, e0), load(wordY), of(1, store(wordY))), e0, e2, nil},
				row{name + ", b loads elsewhere", one(a, datas(m, e0), load(wordZ)), e0, e2, nil},
				row{name + ", b stores", one(a, datas(m, e0), store(wordY)), e0, e2, nil},
				row{name + ", two harts", execution(fromIt, a, datas(m, e0), of(1, load(wordY))), e0, e2, nil},
				row{name + ", it stands behind b", execution(reads{e1, e2}, a, load(wordY), datas(m, e0)), e0, e1, nil},
			)
		}
	}
	hold(t,
		row{"of one word", execution(fromIt, load(wordX), datas(store(wordX), e0), load(wordX)), e0, e2, rules(12)},
		row{"far", execution(reads{e5, e2}, load(wordX), load(wordZ), datas(store(wordY), e0), load(wordZ), store(wordY), load(wordY)), e0, e5, rules(12)},
		row{"it hangs on another one", execution(reads{e3, e2}, load(wordX), load(wordZ), datas(store(wordY), e1), load(wordY)), e0, e3, nil},
		row{"that other one", execution(reads{e3, e2}, load(wordX), load(wordZ), datas(store(wordY), e1), load(wordY)), e1, e3, rules(12)},
		row{"another store is read from", execution(reads{e3, e2}, load(wordX), datas(store(wordY), e0), store(wordY), load(wordY)), e0, e3, nil},
		row{"the store ahead of it is read from", execution(reads{e3, e1}, load(wordX), store(wordY), datas(store(wordY), e0), load(wordY)), e0, e3, nil},
		row{"a store ahead of a is read from", execution(reads{e3, e1}, load(wordX), datas(store(wordY), e0), load(wordZ), load(wordY)), e2, e3, nil},
		row{"b ahead of a", execution(fromIt, load(wordX), datas(store(wordY), e0), load(wordY)), e2, e0, nil},
	)
}

// TestP7_1Rule13 has an event that loads, one whose address hangs on it, and one behind it that stores.
func TestP7_1Rule13(t *testing.T) {
	for _, a := range []api.Event{load(wordX), both(wordX), lr(wordX)} {
		for _, m := range accesses(wordY) {
			name := fmt.Sprintf("of %d by %d", a.Kind, m.Kind)
			hold(t,
				row{name, one(a, addrs(m, e0), store(wordZ)), e0, e2, rules(13)},
				row{name + ", EvBoth as b", one(a, addrs(m, e0), both(wordZ)), e0, e2, rules(13)},
				row{name + ", far", one(a, load(wordZ), addrs(m, e0, e1), fence(0, 0), store(wordZ)), e0, e4, rules(13)},
				row{name + ", b loads", one(a, addrs(m, e0), load(wordZ)), e0, e2, nil},
				row{name + ", branch", one(a, ctrls(m, e0), store(wordZ)), e0, e2, nil},
				row{name + ", not hanging", one(a, m, store(wordZ)), e0, e2, nil},
				row{name + ", it stands behind b", one(a, store(wordZ), addrs(m, e0)), e0, e1, nil},
				row{name + ", it hangs on another one", one(a, load(wordZ), addrs(m, e1), store(wordZ)), e0, e3, nil},
				row{name + ", two harts", one(a, addrs(m, e0), of(1, store(wordZ))), e0, e2, nil},
				row{name + ", b ahead of a", one(a, addrs(m, e0), store(wordZ)), e2, e0, nil},
			)
		}
	}
	hold(t,
		row{"data", one(load(wordX), datas(store(wordY), e0), store(wordZ)), e0, e2, nil},
		row{"b itself hangs", one(load(wordX), load(wordY), addrs(store(wordZ), e0)), e0, e2, rules(9)},
		row{"b hangs, too", one(load(wordX), addrs(load(wordY), e0), addrs(store(wordZ), e0)), e0, e2, rules(9, 13)},
	)
}

// TestP7_1Several has as many rules at once as may be, rising.
func TestP7_1Several(t *testing.T) {
	last := func(e api.Event) api.Event { return aq(rl(addrs(datas(ctrls(e, e0), e0), e0))) }
	swaps := one(aq(rl(both(wordX))), addrs(load(wordY), e0), fence(3, 3), last(both(wordX)))
	swaps.From[e3] = e0
	pair := one(aq(rl(lr(wordX))), addrs(load(wordY), e0), fence(2, 1), last(sc(wordX)))
	hanging := execution(reads{e2, e1}, aq(rl(both(wordX))), addrs(datas(store(wordX), e0), e0), last(both(wordX)))
	hold(t,
		row{"EvBoths", swaps, e0, e3, rules(1, 2, 3, 4, 5, 6, 7, 9, 10, 11, 13)},
		row{"a pair", pair, e0, e3, rules(1, 4, 5, 6, 7, 8, 9, 10, 11, 13)},
		row{"a store between", hanging, e0, e2, rules(1, 5, 6, 7, 9, 10, 11, 12, 13)},
		row{"EvBoths, the load between", swaps, e0, e1, rules(5, 9)},
	)
	for _, x := range []api.Execution{swaps, pair, hanging} {
		for b := range x.Events {
			for a := b; a < len(x.Events); a++ {
				hold(t, row{"not ahead", x, a, b, nil})
			}
			hold(t,
				row{"an EvBegin", x, beginX, b, nil},
				row{"an EvBegin of another word", x, beginY, b, nil},
			)
		}
	}
	for n := range swaps.Events {
		hold(t, row{"a fence as a", swaps, e2, n, nil}, row{"a fence as b", swaps, n, e2, nil})
	}
}
