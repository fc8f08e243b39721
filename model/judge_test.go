package model_test

import (
	"fmt"
	"testing"

	"quadrille/api"
)

// stored gives events their values: by twos, the number of an event, its value.
func stored(x api.Execution, numbers ...int) api.Execution {
	x = copied(x)
	for i := 0; i < len(numbers); i += 2 {
		x.Events[numbers[i]].Value = uint32(numbers[i+1])
	}
	for number, from := range x.From {
		if from >= 0 {
			x.Events[number].ReadValue = x.Events[from].Value
		}
	}
	return x
}

// crossed has two harts that store a word and load the other one's, as it was at first; something may stand between.
func crossed(between ...api.Event) api.Execution {
	l := append([]api.Event{store(wordX)}, between...)
	l = append(l, load(wordY), of(1, store(wordY)))
	for _, e := range between {
		l = append(l, of(1, e))
	}
	return execution(append(l, of(1, load(wordX)))...)
}

// passed has a hart that stores x, then y, and one that loads the new y, then the old x.
func passed() api.Execution {
	return read(execution(store(wordX), store(wordY), of(1, load(wordY)), of(1, load(wordX))), e2, e1)
}

// passedBehind is passed, with an event in each hart between its two.
func passedBehind(first, second api.Event) api.Execution {
	return read(execution(store(wordX), first, store(wordY), of(1, load(wordY)), of(1, second), of(1, load(wordX))), e3, e2)
}

// backed is a hart that loads the new x, then the old one.
func backed() api.Execution {
	return read(execution(store(wordX), of(1, load(wordX)), of(1, load(wordX))), e1, e0)
}

func TestP8_1Examples(t *testing.T) {
	hold(t,
		row{"store x, load y 0; store y, load x 0", stored(crossed(), e0, 1, e2, 1), "coa"},
		row{"with fences of all between", stored(crossed(fence(3, 3)), e0, 1, e3, 1), "ca"},
		row{"store x 1, store y 1; load y 1, load x 0", stored(passed(), e0, 1, e1, 1), "coa"},
		row{"with fences in both", stored(passedBehind(fence(3, 3), fence(3, 3)), e0, 1, e2, 1), "ca"},
		row{"load x 1, load x 0, of one store x 1", stored(backed(), e0, 1), "a"},
	)
}

// TestP8_1Nothing has no events of harts, or none but fences.
func TestP8_1Nothing(t *testing.T) {
	begin := api.Execution{Events: []api.Event{{Hart: -1, Kind: api.EvBegin, Addr: 8, Value: 5}}, From: []int{-1}, Order: [][]int{{0}}}
	fences := api.Execution{Events: []api.Event{fence(3, 3), fence(0, 0), of(2, fence(1, 2))}, From: []int{-1, -1, -1}}
	hold(t,
		row{"no event", api.Execution{}, "coa"},
		row{"no event, empty lists", api.Execution{Events: []api.Event{}, From: []int{}, Order: [][]int{}}, "coa"},
		row{"an EvBegin alone", begin, "coa"},
		row{"EvBegins alone", execution(), "coa"},
		row{"fences alone", fences, "coa"},
		row{"EvBegins and fences", execution(fence(3, 3), of(3, fence(3, 3)), of(3, fence(1, 0))), "coa"},
	)
}

// TestP8_1One has one event of a hart.
func TestP8_1One(t *testing.T) {
	for hart := range api.MaxHarts {
		for _, e := range []api.Event{load(wordX), store(wordX), both(wordX), lr(wordX), sc(wordX), fence(3, 3), aq(rl(both(wordZ)))} {
			hold(t, row{fmt.Sprintf("Kind %d of hart %d", e.Kind, hart), execution(of(hart, e)), "coa"})
		}
	}
}

// TestP8_1Verdicts has all eight: each is made of what breaks one part alone, in words and harts of their own.
func TestP8_1Verdicts(t *testing.T) {
	spoilt := []api.Event{of(2, lr(wordZ)), of(2, sc(wordZ)), of(3, store(wordZ))} // and the last one comes first
	ahead := []api.Event{store(wordX), load(wordX)}                                // and loads the old one
	passing := []api.Event{store(wordX), fence(3, 3), store(wordY), of(1, load(wordY)), of(1, fence(3, 3)), of(1, load(wordX))}
	join := func(lists ...[]api.Event) (l []api.Event) {
		for _, list := range lists {
			l = append(l, list...)
		}
		return l
	}
	backing := []api.Event{store(wordX), of(1, load(wordX)), of(1, load(wordX))}
	hold(t,
		row{"all three", passed(), "coa"},
		row{"coherent and in order", come(execution(spoilt...), wordZ, e2, e1), "co"},
		row{"coherent and atomic", read(execution(passing...), e3, e2), "ca"},
		row{"coherent alone", come(read(execution(join(passing, spoilt)...), e3, e2), wordZ, e8, e7), "c"},
		row{"in order and atomic", execution(ahead...), "oa"},
		row{"in order alone", come(execution(join(ahead, spoilt)...), wordZ, e4, e3), "o"},
		row{"atomic alone", read(execution(backing...), e1, e0), "a"},
		row{"none", come(read(execution(join(backing, spoilt)...), e1, e0), wordZ, e5, e4), ""},
	)
}

// TestP8_1Circles has circles of program order of one address, Rf, Co and Fr; which of them are ones of in order, too.
func TestP8_1Circles(t *testing.T) {
	loadStore := []api.Event{load(wordX), store(wordX), of(1, load(wordX)), of(1, store(wordX))}
	hold(t,
		// of one hart
		row{"a store comes ahead of one ahead of it", come(execution(store(wordX), store(wordX)), wordX, e1, e0), "a"},
		row{"a load reads from a store behind it", read(execution(load(wordX), store(wordX)), e0, e1), "oa"},
		row{"a load reads from a store far behind it", read(execution(load(wordX), load(wordY), store(wordY), store(wordX)), e0, e3), "oa"},
		row{"a load reads what a store ahead of it came behind", execution(store(wordX), load(wordX)), "oa"},
		row{"the older one of two stores ahead of it", read(execution(store(wordX), store(wordX), load(wordX)), e2, e0), "oa"},
		row{"the younger one", read(execution(store(wordX), store(wordX), load(wordX)), e2, e1), "coa"},
		row{"a load reads what an EvBoth ahead of it came behind", execution(both(wordX), load(wordX)), "oa"},
		row{"an EvBoth reads what a store ahead of it came behind", execution(store(wordX), both(wordX)), "a"},
		row{"an EvBoth reads from a store behind it", read(execution(both(wordX), store(wordX)), e0, e1), "oa"},
		row{"two EvBoths read from one event", execution(both(wordX), both(wordX)), "a"},
		row{"two EvBoths read from each other", read(execution(both(wordX), both(wordX)), e0, e1, e1, e0), "oa"},
		row{"an lr reads from its sc", read(execution(lr(wordX), sc(wordX)), e0, e1), "oa"},
		// of two harts
		row{"a load behind a load reads an older one", backed(), "a"},
		row{"a load behind a store reads an older one", come(read(execution(store(wordX), load(wordX), of(1, store(wordX))), e1, e2), wordX, e2, e0), "oa"},
		row{"a load behind a store reads a younger one", read(execution(store(wordX), load(wordX), of(1, store(wordX))), e1, e2), "coa"},
		row{"a load reads what comes behind a store behind it", read(execution(load(wordX), store(wordX), of(1, store(wordX))), e0, e2), "a"},
		row{"a load reads what comes ahead of a store behind it", come(read(execution(load(wordX), store(wordX), of(1, store(wordX))), e0, e2), wordX, e2, e1), "coa"},
		row{"loads read from stores that are behind each other", read(execution(loadStore...), e0, e3, e2, e1), "a"},
		row{"one of them does", read(execution(loadStore...), e2, e1), "coa"},
		row{"a store, then a load between two of a hart, is passed by", come(read(execution(load(wordX), store(wordX), load(wordX), of(1, store(wordX))), e0, e3), wordX, e3, e1), "oa"},
		row{"an EvBoth reads from one that comes behind it", read(execution(both(wordX), of(1, store(wordX))), e0, e1), "a"},
		row{"an EvBoth reads from one that comes ahead of it", come(read(execution(both(wordX), of(1, store(wordX))), e0, e1), wordX, e1, e0), "coa"},
		row{"two EvBoths read from each other, of two harts", read(execution(both(wordX), of(1, both(wordX))), e0, e1, e1, e0), "a"},
		row{"the same words of two harts, in no circle", read(execution(store(wordX), load(wordX), of(1, load(wordX)), of(1, load(wordX))), e1, e0, e3, e0), "coa"},
	)
}

// TestP8_1TwoAddresses has circles with program order of two addresses in them: they are none of coherent, and of in order only what must stay in order is.
func TestP8_1TwoAddresses(t *testing.T) {
	waiting := read(execution(load(wordX), store(wordY), of(1, load(wordY)), of(1, store(wordX))), e0, e3, e2, e1)
	hanging := read(execution(load(wordX), datas(store(wordY), e0), of(1, load(wordY)), of(1, datas(store(wordX), e2))), e0, e3, e2, e1)
	doubled := execution(store(wordX), store(wordY), of(1, store(wordY)), of(1, store(wordX)))
	released := execution(store(wordX), rl(store(wordY)), of(1, store(wordY)), of(1, rl(store(wordX))))
	firstsLast := func(x api.Execution) api.Execution { return come(come(x, wordX, e3, e0), wordY, e1, e2) }
	hold(t,
		row{"a fence of address 0 between those of another one", read(execution(store(wordY), fence(0, 0), store(wordX), of(1, load(wordX)), of(1, fence(0, 0)), of(1, load(wordY))), e3, e2), "coa"},
		row{"fences of all in all", read(execution(store(wordY), fence(3, 3), store(wordX), of(1, load(wordX)), of(1, fence(3, 3)), of(1, load(wordY))), e3, e2), "ca"},
		row{"crossed", crossed(), "coa"},
		row{"crossed by fences of writes, reads", crossed(fence(1, 2)), "ca"},
		row{"passed", passed(), "coa"},
		row{"loads read from stores behind those of the other word", waiting, "coa"},
		row{"each store hangs on its load", hanging, "ca"},
		row{"two stores each, the first ones come behind the second ones", firstsLast(doubled), "coa"},
		row{"the second ones have Rl", firstsLast(released), "ca"},
		row{"they have Rl, and one of the first ones comes ahead", come(released, wordY, e1, e2), "coa"},
	)
}

// TestP8_1Fences has what each fence keeps, where it is all that keeps it.
func TestP8_1Fences(t *testing.T) {
	for pred := range 4 {
		for succ := range 4 {
			name := fmt.Sprintf("fences of %d and %d", pred, succ)
			is := func(keeps bool) string {
				if keeps {
					return "ca"
				}
				return "coa"
			}
			f := fence(pred, succ)
			hold(t,
				row{name + " crossed", crossed(f), is(pred&1 != 0 && succ&2 != 0)},
				row{name + " where it stores", passedBehind(f, fence(3, 3)), is(pred&1 != 0 && succ&1 != 0)},
				row{name + " where it loads", passedBehind(fence(3, 3), f), is(pred&2 != 0 && succ&2 != 0)},
			)
		}
	}
}

// TestP8_1OwnRf has loads that are told by a store of their hart: Rf of one hart is no arrow of in order.
func TestP8_1OwnRf(t *testing.T) {
	f := fence(2, 2)
	both0 := read(execution(both(wordX), load(wordX), f, load(wordY), of(1, both(wordY)), of(1, load(wordY)), of(1, f), of(1, load(wordX))), e1, e0, e5, e4)
	plain := read(execution(store(wordX), load(wordX), f, load(wordY), of(1, store(wordY)), of(1, load(wordY)), of(1, f), of(1, load(wordX))), e1, e0, e5, e4)
	hold(t,
		row{"its own store is seen before others see it", plain, "coa"},
		row{"an EvBoth is not", both0, "ca"},
		row{"a store of another hart is not", read(execution(store(wordX), of(1, load(wordX)), of(1, f), of(1, load(wordY)), of(2, store(wordY)), of(3, load(wordY)), of(3, f), of(3, load(wordX))), e1, e0, e5, e4), "ca"},
		row{"nor is it where nothing is kept", read(execution(store(wordX), of(1, load(wordX)), of(1, load(wordY)), of(2, store(wordY)), of(3, load(wordY)), of(3, load(wordX))), e1, e0, e4, e3), "coa"},
	)
}

// TestP8_1Deps has what hangs on a load, over three harts.
func TestP8_1Deps(t *testing.T) {
	over := func(second, last api.Event) api.Execution {
		return read(execution(store(wordX), of(1, load(wordX)), of(1, second), of(2, load(wordY)), of(2, last)), e1, e0, e3, e2)
	}
	hold(t,
		row{"nothing hangs", over(store(wordY), load(wordX)), "coa"},
		row{"the store hangs", over(datas(store(wordY), e1), load(wordX)), "coa"},
		row{"the load hangs", over(store(wordY), addrs(load(wordX), e3)), "coa"},
		row{"both hang", over(datas(store(wordY), e1), addrs(load(wordX), e3)), "ca"},
		row{"Rl and Aq in their place", read(execution(store(wordX), of(1, load(wordX)), of(1, rl(store(wordY))), of(2, aq(load(wordY))), of(2, load(wordX))), e1, e0, e3, e2), "ca"},
	)
}
