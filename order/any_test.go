package order_test

import (
	"math/rand"
	"reflect"
	"slices"
	"testing"

	"quadrille/api"
	"quadrille/events"
	"quadrille/order"
)

// retold is what the chapter says of an execution, told from layer 6's relations, apart from the package's ways.
type retold struct {
	api.Execution
	po, rf map[api.Pair]bool
}

func retell(x api.Execution) retold {
	set := func(l []api.Pair) map[api.Pair]bool {
		m := map[api.Pair]bool{}
		for _, pair := range l {
			m[pair] = true
		}
		return m
	}
	return retold{x, set(events.Po(x)), set(events.Rf(x))}
}

// between tells the events that are behind a and ahead of b.
func (r retold) between(a, b int) (l []int) {
	for m := range r.Events {
		if r.po[api.Pair{A: a, B: m}] && r.po[api.Pair{A: m, B: b}] {
			l = append(l, m)
		}
	}
	return l
}

// storesTo tells whether an event stores at an address.
func (r retold) storesTo(n int, addr uint32) bool {
	return slices.Contains([]api.EventKind{api.EvStore, api.EvBoth}, r.Events[n].Kind) && r.Events[n].Addr == addr
}

// in tells whether a fence's set has an event: a sum of 1 (writes) and 2 (reads).
func in(set int, e api.Event) bool {
	switch e.Kind {
	case api.EvLoad:
		return set == 2 || set == 3
	case api.EvStore:
		return set == 1 || set == 3
	}
	return set != 0
}

// pair tells the load that a store is paired with, or -1: the last lr ahead of it counts, and what is behind that one.
func (r retold) pair(b int) int {
	last := -1
	for m, e := range r.Events {
		if r.po[api.Pair{A: m, B: b}] && e.Kind == api.EvLoad && e.Reserved {
			last = m
		}
	}
	if last < 0 || !r.Events[b].Reserved || r.Events[b].Kind != api.EvStore || r.Events[last].Addr != r.Events[b].Addr {
		return -1
	}
	for _, m := range r.between(last, b) {
		if r.Events[m].Kind == api.EvStore && r.Events[m].Reserved {
			return -1
		}
	}
	return last
}

// rules tells those that hold.
func (r retold) rules(a, b int) (l []int) {
	first, second := r.Events[a], r.Events[b]
	if !r.po[api.Pair{A: a, B: b}] || first.Kind == api.EvFence || second.Kind == api.EvFence {
		return nil
	}
	storesB, loadsB := second.Kind != api.EvLoad, second.Kind != api.EvStore
	swapA, swapB := first.Kind == api.EvBoth || first.Reserved, second.Kind == api.EvBoth || second.Reserved
	stored, fenced, readHanging, addressed := false, false, false, false
	for _, m := range r.between(a, b) {
		e := r.Events[m]
		stored = stored || r.storesTo(m, first.Addr)
		fenced = fenced || e.Kind == api.EvFence && in(e.Pred, first) && in(e.Succ, second)
		addressed = addressed || slices.Contains(e.Addrs, a)
		readHanging = readHanging || r.rf[api.Pair{A: m, B: b}] && slices.Contains(slices.Concat(e.Addrs, e.Datas), a)
	}
	holds := []bool{
		1:  storesB && first.Addr == second.Addr,
		2:  first.Kind != api.EvStore && loadsB && first.Addr == second.Addr && !stored && r.From[a] != r.From[b],
		3:  swapA && r.rf[api.Pair{A: a, B: b}],
		4:  fenced,
		5:  first.Aq,
		6:  second.Rl,
		7:  (first.Aq || first.Rl) && (second.Aq || second.Rl) && swapA && swapB,
		8:  r.pair(b) == a,
		9:  slices.Contains(second.Addrs, a),
		10: slices.Contains(second.Datas, a),
		11: storesB && slices.Contains(second.Ctrls, a),
		12: loadsB && readHanging,
		13: storesB && addressed,
	}
	for rule, so := range holds {
		if so {
			l = append(l, rule)
		}
	}
	return l
}

// anyEvent is an event with any parts but deps, more often of a low word, so that many share one.
func anyEvent(source *rand.Rand) api.Event {
	addr := uint32(4 * source.Intn(1+source.Intn(begins)))
	seldom := func() bool { return source.Intn(8) == 0 }
	if source.Intn(6) == 0 {
		return fence(source.Intn(4), source.Intn(4))
	}
	e := accesses(addr)[source.Intn(3)]
	e.Aq, e.Rl, e.Reserved = seldom(), seldom(), e.Kind != api.EvBoth && source.Intn(3) == 0
	return e
}

// anyDeps gives an event of a list some that it hangs on.
func anyDeps(source *rand.Rand, l []api.Event, number int) {
	e := &l[number]
	some := func() (deps []int) {
		for i, on := range l[:number] {
			if on.Hart == e.Hart && events.Loads(on) && source.Intn(6) == 0 {
				deps = append(deps, i+begins)
			}
		}
		return deps
	}
	e.Ctrls = some()
	if e.Kind != api.EvFence {
		e.Addrs = some()
	}
	if events.Stores(*e) {
		e.Datas = some()
	}
}

// anyExecution is one that may be, of some harts.
func anyExecution(source *rand.Rand) api.Execution {
	var l []api.Event
	for hart := range api.MaxHarts {
		for range source.Intn(8) {
			l = append(l, of(hart, anyEvent(source)))
		}
	}
	for number := range l {
		anyDeps(source, l, number)
	}
	x := execution(nil, l...)
	for number, from := range x.From {
		if from < 0 {
			continue
		}
		may := slices.DeleteFunc(slices.Clone(x.Order[from]), func(s int) bool { return s == number })
		x.From[number] = may[source.Intn(len(may))]
	}
	return x
}

// TestP7_1Any holds what is told of all pairs of events against the chapter told again.
func TestP7_1Any(t *testing.T) {
	source := rand.New(rand.NewSource(71))
	var met [lastRule + 1]int
	for range 1500 {
		x := anyExecution(source)
		kept := copied(x)
		r := retell(x)
		for a := range x.Events {
			for b := range x.Events {
				want := r.rules(a, b)
				if got, err := order.Rules(x, a, b); err != api.OK || !slices.Equal(got, want) {
					t.Fatalf("%v: rules of %d, %d: %v, %v, want %v", x, a, b, got, err, want)
				}
				rule := 1 + source.Intn(lastRule)
				if got, err := order.Rule(x, rule, a, b); err != api.OK || got != slices.Contains(want, rule) {
					t.Fatalf("%v: rule %d of %d, %d: %v, %v", x, rule, a, b, got, err)
				}
				for _, rule := range want {
					met[rule]++
				}
			}
		}
		if !reflect.DeepEqual(x, kept) {
			t.Fatalf("%v has changed, it was %v", x, kept)
		}
	}
	for rule, many := range met[1:] {
		if many < 100 {
			t.Errorf("rule %d is met only %d times", rule+1, many)
		}
	}
}

// TestP7_2Any holds Ppo and Paired against the chapter told again.
func TestP7_2Any(t *testing.T) {
	source := rand.New(rand.NewSource(72))
	pairs := 0
	for range 5000 {
		x := anyExecution(source)
		r := retell(x)
		var want []api.Pair
		for a := range x.Events {
			for b := range x.Events {
				if len(r.rules(a, b)) > 0 {
					want = append(want, api.Pair{A: a, B: b})
				}
			}
			first := r.pair(a)
			if load, is := order.Paired(x, a); is != (first >= 0) || load != max(first, 0) {
				t.Fatalf("%v: %d is paired with %d, %v, want %d", x, a, load, is, first)
			}
			if first >= 0 {
				pairs++
			}
		}
		if got, err := order.Ppo(x); err != api.OK || !slices.Equal(got, want) {
			t.Fatalf("%v: Ppo is %v, %v, want %v", x, got, err, want)
		}
	}
	if pairs < 300 {
		t.Errorf("only %d are paired", pairs)
	}
}

// TestP7_3Any asks for what follows of what must stay in order.
func TestP7_3Any(t *testing.T) {
	source := rand.New(rand.NewSource(73))
	for range 2000 {
		x := anyExecution(source)
		kept, err := order.Ppo(x)
		if err != api.OK {
			t.Fatalf("%v: %v", x, err)
		}
		po := events.Po(x)
		for _, pair := range kept {
			if !slices.Contains(po, pair) {
				t.Fatalf("%v: %v is kept, and not in program order", x, pair)
			}
		}
		for f, e := range x.Events {
			if e.Kind == api.EvFence {
				x.Events[f].Pred, x.Events[f].Succ = 3, 3
			}
		}
		kept, _ = order.Ppo(x)
		for _, pair := range fencedOff(x, po) {
			if !slices.Contains(kept, pair) {
				t.Fatalf("%v: %v has a fence of all between, and is not kept", x, pair)
			}
		}
	}
}

// fencedOff tells the pairs of events that load or store with a fence between.
func fencedOff(x api.Execution, po []api.Pair) (l []api.Pair) {
	isFence := func(n int) bool { return x.Events[n].Kind == api.EvFence }
	for _, pair := range po {
		if isFence(pair.A) || isFence(pair.B) {
			continue
		}
		for f := pair.A; f < pair.B; f++ {
			if isFence(f) {
				l = append(l, pair)
				break
			}
		}
	}
	return l
}
