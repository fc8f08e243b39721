package model_test

import (
	"math/rand"
	"slices"
	"testing"

	"quadrille/api"
	"quadrille/events"
	"quadrille/model"
)

// byAxioms tells whether one of all orders of the events but fences, EvBegin first, is as the axioms ask.
func (r retold) byAxioms() bool {
	if !r.atomic() {
		return false
	}
	var begun, rest []int
	for number, e := range r.Events {
		switch e.Kind {
		case api.EvBegin:
			begun = append(begun, number)
		case api.EvLoad, api.EvStore, api.EvBoth:
			rest = append(rest, number)
		}
	}
	return r.someOrder(begun, rest)
}

// someOrder lays what is left behind what is taken, in all orders, till one is as asked.
func (r retold) someOrder(taken, left []int) bool {
	if len(left) == 0 {
		return r.axioms(taken)
	}
	for i := range left {
		left[0], left[i] = left[i], left[0]
		is := r.someOrder(append(slices.Clone(taken), left[0]), left[1:])
		left[0], left[i] = left[i], left[0]
		if is {
			return true
		}
	}
	return false
}

// axioms tells whether an order is as the axioms ask, but for atomic, which no order changes.
func (r retold) axioms(numbers []int) bool {
	place := make([]int, len(r.Events))
	for at, number := range numbers {
		place[number] = at
	}
	for pair := range r.kept {
		if place[pair.A] > place[pair.B] {
			return false
		}
	}
	for _, list := range r.Order {
		for i := range list[1:] {
			if place[list[i]] > place[list[i+1]] {
				return false
			}
		}
	}
	for number, e := range r.Events {
		if events.Loads(e) && r.From[number] != r.last(number, place) {
			return false
		}
	}
	return true
}

// last tells the last store, by an order, of those that are ahead of a load in it or in program order.
func (r retold) last(number int, place []int) int {
	last := -1
	for store, e := range r.Events {
		if store == number || !events.Stores(e) || e.Addr != r.Events[number].Addr {
			continue
		}
		ahead := place[store] < place[number] || r.byCode(store, number)
		if ahead && (last < 0 || place[store] > place[last]) {
			last = store
		}
	}
	return last
}

// allowedByAxioms holds Allowed against all orders.
func allowedByAxioms(t *testing.T, x api.Execution) bool {
	t.Helper()
	want := retell(x).byAxioms()
	if got, err := model.Allowed(x); err != api.OK || got != want {
		t.Fatalf("%v: Allowed is %v, %v, by the axioms it is %v", x, got, err, want)
	}
	return want
}

// TestP8_3Axioms tries all orders of any executions of few events.
func TestP8_3Axioms(t *testing.T) {
	source := rand.New(rand.NewSource(83))
	met := map[bool]int{}
	for range 8000 {
		met[allowedByAxioms(t, anyExecution(source, 6))]++
	}
	if met[true] < 1000 || met[false] < 1000 {
		t.Errorf("met only %v", met)
	}
}

// TestP8_3AllOfThree has all executions of up to three accesses of up to two words and two harts, without fences.
func TestP8_3AllOfThree(t *testing.T) {
	kinds := []api.Event{load(wordX), store(wordX), both(wordX), lr(wordX), sc(wordX), load(wordY), store(wordY), both(wordY)}
	met := map[bool]int{}
	var lay func(l []api.Event)
	lay = func(l []api.Event) {
		for split := range len(l) + 1 {
			for number := range l {
				l[number].Hart = 0
				if number >= split {
					l[number].Hart = 1
				}
			}
			everyWay(execution(l...), func(x api.Execution) { met[allowedByAxioms(t, x)]++ })
		}
		for _, e := range kinds {
			if len(l) < 3 {
				lay(append(slices.Clone(l), e))
			}
		}
	}
	lay(nil)
	if met[true] < 3000 || met[false] < 9000 {
		t.Errorf("met only %v", met)
	}
}

// crossing hands on all executions of two harts that have two loads or stores each of up to two words, and, in each hart, something that may keep them in order.
func crossing(hand func(x api.Execution)) {
	var accesses []api.Event
	for _, addr := range []uint32{wordX, wordY} {
		accesses = append(accesses, load(addr), store(addr))
	}
	keepers := []func(a, b api.Event, number int) []api.Event{
		func(a, b api.Event, number int) []api.Event { return []api.Event{a, b} },
		func(a, b api.Event, number int) []api.Event { return []api.Event{a, fence(3, 3), b} },
		func(a, b api.Event, number int) []api.Event { return []api.Event{aq(a), b} },
		func(a, b api.Event, number int) []api.Event { return []api.Event{a, rl(b)} },
		func(a, b api.Event, number int) []api.Event {
			if events.Loads(a) {
				b = addrs(b, number)
			}
			return []api.Event{a, b}
		},
	}
	for shape := range len(accesses) * len(accesses) * len(accesses) * len(accesses) {
		var four [4]api.Event
		for i := range four {
			four[i] = accesses[shape%len(accesses)]
			shape /= len(accesses)
		}
		for i := range len(keepers) * len(keepers) {
			l := keepers[i/len(keepers)](four[0], four[1], e0)
			for _, e := range keepers[i%len(keepers)](four[2], four[3], e0+len(l)) {
				l = append(l, of(1, e))
			}
			everyWay(execution(l...), hand)
		}
	}
}

// TestP8_3AllOfFour has all executions of two harts of two loads or stores each.
func TestP8_3AllOfFour(t *testing.T) {
	met := map[api.Verdict]int{}
	crossing(func(x api.Execution) {
		allowedByAxioms(t, x)
		v, _ := model.Judge(x)
		met[v]++
	})
	if met[verdict("coa")] < 10000 || met[verdict("ca")] < 200 {
		t.Errorf("met only %v", met)
	}
}

// everyWay hands on an execution with each From that may be, and of each all orders of stores.
func everyWay(x api.Execution, hand func(x api.Execution)) {
	var reading func(number int)
	var coming func(word, at int)
	reading = func(number int) {
		if number == len(x.Events) {
			coming(0, 1)
			return
		}
		if x.From[number] < 0 {
			reading(number + 1)
			return
		}
		for _, store := range slices.Sorted(slices.Values(x.Order[x.Events[number].Addr/4])) {
			if store != number {
				x.From[number] = store
				reading(number + 1)
			}
		}
	}
	coming = func(word, at int) {
		if word == len(x.Order) {
			hand(x)
			return
		}
		list := x.Order[word]
		if at >= len(list) {
			coming(word+1, 1)
			return
		}
		for i := at; i < len(list); i++ {
			list[at], list[i] = list[i], list[at]
			coming(word, at+1)
			list[at], list[i] = list[i], list[at]
		}
	}
	reading(0)
}

// without takes an event away on which nothing hangs and from which nothing reads.
func without(x api.Execution, number int) api.Execution {
	x = copied(x)
	x.Events, x.From = slices.Delete(x.Events, number, number+1), slices.Delete(x.From, number, number+1)
	lists := append(slices.Clone(x.Order), x.From)
	for _, e := range x.Events {
		lists = append(lists, e.Addrs, e.Datas, e.Ctrls)
	}
	for _, list := range lists {
		for i := range list {
			if list[i] > number {
				list[i]--
			}
		}
	}
	return x
}

// weaker tells executions that are one with a fence less, a fence of less, an Aq or an Rl less.
func weaker(x api.Execution) (l []api.Execution) {
	change := func(there bool, change func(y *api.Execution)) {
		if there {
			y := copied(x)
			change(&y)
			l = append(l, y)
		}
	}
	for n, e := range x.Events {
		change(e.Aq, func(y *api.Execution) { y.Events[n].Aq = false })
		change(e.Rl, func(y *api.Execution) { y.Events[n].Rl = false })
		for _, bit := range []int{1, 2} {
			change(e.Pred&bit != 0, func(y *api.Execution) { y.Events[n].Pred -= bit })
			change(e.Succ&bit != 0, func(y *api.Execution) { y.Events[n].Succ -= bit })
		}
		change(e.Kind == api.EvFence, func(y *api.Execution) { *y = without(x, n) })
	}
	return l
}

// weakened holds an execution against those that have less that keeps events in order: what is in order stays so, the other parts do not change. It tells how many are allowed as it is, and how many are though it is not.
func weakened(t *testing.T, x api.Execution) (stay, come int) {
	t.Helper()
	was, _ := model.Judge(x)
	allowed, _ := model.Allowed(x)
	for _, y := range weaker(x) {
		is, err := model.Judge(y)
		if err != api.OK || is.Coherent != was.Coherent || is.Atomic != was.Atomic || was.Ordered && !is.Ordered {
			t.Fatalf("%v is %v; %v, which has less, is %v, %v", x, was, y, is, err)
		}
		less, err := model.Allowed(y)
		switch {
		case err != api.OK || allowed && !less:
			t.Fatalf("%v is allowed: %v; %v, which has less: %v, %v", x, allowed, y, less, err)
		case allowed:
			stay++
		case less:
			come++
		}
	}
	return stay, come
}

// TestP8_3Weaker has any executions, and crossing ones, with less that keeps events in order.
func TestP8_3Weaker(t *testing.T) {
	source := rand.New(rand.NewSource(84))
	stay, come := 0, 0
	hand := func(x api.Execution) {
		s, c := weakened(t, x)
		stay, come = stay+s, come+c
	}
	for range 1500 {
		hand(anyExecution(source, 10))
	}
	crossing(hand)
	if stay < 10000 || come < 200 {
		t.Errorf("met only %d that stay allowed, %d that come to be", stay, come)
	}
}

// TestP8_3Less has executions that are not allowed for one thing alone, and that thing less.
func TestP8_3Less(t *testing.T) {
	fences := passedBehind(fence(3, 3), fence(3, 3))
	marks := read(execution(store(wordX), rl(store(wordY)), of(1, aq(load(wordY))), of(1, load(wordX))), e2, e1)
	on := func(x api.Execution, number int, change func(e *api.Event)) api.Execution {
		x = copied(x)
		change(&x.Events[number])
		return x
	}
	hold(t,
		row{"fences", fences, "ca"},
		row{"the first fence less", without(fences, e1), "coa"},
		row{"the second fence less", without(fences, e4), "coa"},
		row{"Pred of the first one less", on(fences, e1, func(e *api.Event) { e.Pred = 2 }), "coa"},
		row{"Pred of the first one less, where it keeps nothing", on(fences, e1, func(e *api.Event) { e.Pred = 1 }), "ca"},
		row{"Succ of the first one less", on(fences, e1, func(e *api.Event) { e.Succ = 2 }), "coa"},
		row{"Succ of the first one less, where it keeps nothing", on(fences, e1, func(e *api.Event) { e.Succ = 1 }), "ca"},
		row{"Pred of the second one less", on(fences, e4, func(e *api.Event) { e.Pred = 1 }), "coa"},
		row{"Succ of the second one less", on(fences, e4, func(e *api.Event) { e.Succ = 1 }), "coa"},
		row{"nothing of the second one left", on(fences, e4, func(e *api.Event) { e.Pred, e.Succ = 0, 0 }), "coa"},
		row{"Aq and Rl", marks, "ca"},
		row{"no Aq", on(marks, e2, func(e *api.Event) { e.Aq = false }), "coa"},
		row{"no Rl", on(marks, e1, func(e *api.Event) { e.Rl = false }), "coa"},
	)
}
