package events_test

import (
	"math"
	"math/rand"
	"reflect"
	"slices"
	"sort"
	"testing"

	"quadrille/api"
	"quadrille/events"
)

// retold is what the chapter says of an execution, apart from the package's ways: by what it ought to be, held against what it is.
type retold struct{ api.Execution }

// stores and loads tell the numbers of events of an address that do so.
func (r retold) stores(addr uint32) []int {
	return r.ofKinds(addr, api.EvBegin, api.EvStore, api.EvBoth)
}

func (r retold) ofKinds(addr uint32, kinds ...api.EventKind) (l []int) {
	for i, e := range r.Events {
		if e.Addr == addr && slices.Contains(kinds, e.Kind) {
			l = append(l, i)
		}
	}
	return l
}

// addrs tells the addresses that any event has, EvBegin among them, rising; a fence has none.
func (r retold) addrs() (l []uint32) {
	for _, e := range r.Events {
		if e.Kind != api.EvFence && !slices.Contains(l, e.Addr) {
			l = append(l, e.Addr)
		}
	}
	slices.Sort(l)
	return l
}

// bare is an event with the parts that its Kind names, and no deps.
func bare(e api.Event) api.Event {
	b := api.Event{Hart: e.Hart, Kind: e.Kind}
	switch e.Kind {
	case api.EvLoad:
		b.Addr, b.ReadValue, b.Aq, b.Rl, b.Reserved = e.Addr, e.ReadValue, e.Aq, e.Rl, e.Reserved
	case api.EvStore:
		b.Addr, b.Value, b.Aq, b.Rl, b.Reserved = e.Addr, e.Value, e.Aq, e.Rl, e.Reserved
	case api.EvBoth:
		b.Addr, b.Value, b.ReadValue, b.Aq, b.Rl = e.Addr, e.Value, e.ReadValue, e.Aq, e.Rl
	case api.EvFence:
		b.Pred, b.Succ = e.Pred, e.Succ
	case api.EvBegin:
		b.Hart, b.Addr, b.Value = -1, e.Addr, e.Value
	}
	return b
}

// deps tells whether a list may be one of an event's: what is left of those that it may hang on, in order.
func (r retold) deps(number int, list []int, may ...api.EventKind) bool {
	e := r.Events[number]
	if len(list) == 0 {
		return true
	}
	var on []int
	for i, v := range r.Events[:number] {
		if v.Hart == e.Hart && (v.Kind == api.EvLoad || v.Kind == api.EvBoth) && slices.Contains(list, i) {
			on = append(on, i)
		}
	}
	return slices.Contains(may, e.Kind) && slices.Equal(on, list)
}

// event tells whether an event may be, apart from where it stands.
func (r retold) event(number int) bool {
	e := r.Events[number]
	plain := e
	plain.Addrs, plain.Datas, plain.Ctrls = nil, nil, nil
	switch {
	case e.Kind < api.EvLoad, e.Kind > api.EvBegin, !reflect.DeepEqual(plain, bare(e)), e.Addr%4 != 0:
		return false
	case e.Kind != api.EvBegin && (e.Hart < 0 || e.Hart > 3), e.Pred < 0, e.Pred > 3, e.Succ < 0, e.Succ > 3:
		return false
	}
	return r.deps(number, e.Addrs, api.EvLoad, api.EvStore, api.EvBoth) &&
		r.deps(number, e.Datas, api.EvStore, api.EvBoth) &&
		r.deps(number, e.Ctrls, api.EvLoad, api.EvStore, api.EvBoth, api.EvFence)
}

// placed tells whether the events stand as they ought to.
func (r retold) placed() bool {
	var begins []uint32
	var harts []int
	for i, e := range r.Events {
		if e.Kind == api.EvBegin {
			begins = append(begins, e.Addr)
			if i != len(begins)-1 {
				return false
			}
		} else {
			harts = append(harts, e.Hart)
		}
	}
	return slices.Equal(begins, r.addrs()) && sort.IntsAreSorted(harts)
}

// reads tells whether From may be.
func (r retold) reads() bool {
	if len(r.From) != len(r.Events) {
		return false
	}
	for i, e := range r.Events {
		may := []int{-1}
		if e.Kind == api.EvLoad || e.Kind == api.EvBoth {
			may = nil
			for _, s := range r.stores(e.Addr) {
				if s != i && r.Events[s].Value == e.ReadValue {
					may = append(may, s)
				}
			}
		}
		if !slices.Contains(may, r.From[i]) {
			return false
		}
	}
	return true
}

// comes tells whether Order may be.
func (r retold) comes() bool {
	addrs := r.addrs()
	if len(r.Order) != len(addrs) {
		return false
	}
	for i, list := range r.Order {
		sorted := slices.Sorted(slices.Values(list))
		if !slices.Equal(sorted, r.stores(addrs[i])) || r.Events[list[0]].Kind != api.EvBegin {
			return false
		}
	}
	return true
}

// check tells what Check ought to.
func (r retold) check() api.Errno {
	if len(r.Events) > api.MaxEvents {
		return api.ErrLong
	}
	for i := range r.Events {
		if !r.event(i) {
			return api.ErrEvent
		}
	}
	switch {
	case !r.placed():
		return api.ErrEvent
	case !r.reads():
		return api.ErrFrom
	case !r.comes():
		return api.ErrOrder
	}
	return api.OK
}

// sorted tells pairs by rising A, then B.
func sorted(l []api.Pair) []api.Pair {
	slices.SortFunc(l, func(p, q api.Pair) int { return 1000*(p.A-q.A) + p.B - q.B })
	return l
}

// relations tells what the four ought to, each from what makes it.
func (r retold) relations() [4][]api.Pair {
	var po, rf, co, fr []api.Pair
	for b, e := range r.Events {
		for a, f := range r.Events[:b] {
			if f.Hart == e.Hart && e.Hart >= 0 {
				po = append(po, api.Pair{A: a, B: b})
			}
		}
		if r.From[b] >= 0 {
			rf = append(rf, api.Pair{A: r.From[b], B: b})
		}
	}
	for _, list := range r.Order {
		for i, a := range list {
			for _, b := range list[i+1:] {
				co = append(co, api.Pair{A: a, B: b})
				for load, from := range r.From {
					if from == a && load != b {
						fr = append(fr, api.Pair{A: load, B: b})
					}
				}
			}
		}
	}
	return [4][]api.Pair{sorted(po), sorted(rf), sorted(co), sorted(fr)}
}

// anyDeps tells some loads of an event's hart ahead of it, rising.
func anyDeps(source *rand.Rand, l []api.Event, number int) (deps []int) {
	for i, e := range l[:number] {
		if e.Hart == l[number].Hart && events.Loads(e) && source.Intn(3) == 0 {
			deps = append(deps, i)
		}
	}
	return deps
}

// anyEvent is an event of a hart, with all parts but deps, and values that From does not make.
func anyEvent(source *rand.Rand, hart int, addrs []uint32) api.Event {
	e := bare(api.Event{
		Hart: hart, Kind: api.EvLoad + api.EventKind(source.Intn(4)), Addr: addrs[source.Intn(len(addrs))], Value: uint32(source.Intn(4)),
		Aq: source.Intn(4) == 0, Rl: source.Intn(4) == 0, Pred: source.Intn(4), Succ: source.Intn(4), Reserved: source.Intn(4) == 0,
	})
	return e
}

// anyBegun is the addresses that events have, rising, and often one or two that none of them has.
func anyBegun(source *rand.Rand, own []api.Event) []uint32 {
	l := retold{api.Execution{Events: own}}.addrs()
	for range source.Intn(3) {
		l = append(l, []uint32{0, 4, 12, 1 << 31, 1<<32 - 8}[source.Intn(5)])
	}
	slices.Sort(l)
	return slices.Compact(l)
}

// anyExecution is one that may be.
func anyExecution(source *rand.Rand) api.Execution {
	var own []api.Event
	addrs := [][]uint32{{0}, {4, 8}, {0, 1<<31 - 4, 1 << 31, 1<<32 - 4}}[source.Intn(3)]
	for hart := range api.MaxHarts {
		for range source.Intn(6) {
			own = append(own, anyEvent(source, hart, addrs))
		}
	}
	var r retold
	for _, addr := range anyBegun(source, own) {
		r.Events = append(r.Events, api.Event{Hart: -1, Kind: api.EvBegin, Addr: addr, Value: uint32(source.Intn(4))})
	}
	begins := len(r.Events)
	r.Events = append(r.Events, own...)
	for i := range r.Events {
		r.Events[i], r.From = r.any(source, i), append(r.From, -1)
	}
	for i, e := range r.Events {
		if events.Loads(e) {
			may := slices.DeleteFunc(r.stores(e.Addr), func(s int) bool { return s == i })
			r.From[i] = may[source.Intn(len(may))]
			r.Events[i].ReadValue = r.Events[r.From[i]].Value
		}
	}
	for begin := range begins {
		list := r.stores(r.Events[begin].Addr)
		source.Shuffle(len(list)-1, func(i, j int) { list[i+1], list[j+1] = list[j+1], list[i+1] })
		r.Order = append(r.Order, list)
	}
	return r.Execution
}

// any is an event with some deps.
func (r retold) any(source *rand.Rand, number int) api.Event {
	e := r.Events[number]
	switch e.Kind {
	case api.EvLoad, api.EvStore, api.EvBoth:
		e.Addrs, e.Ctrls = anyDeps(source, r.Events, number), anyDeps(source, r.Events, number)
	case api.EvFence:
		e.Ctrls = anyDeps(source, r.Events, number)
	}
	if e.Kind == api.EvStore || e.Kind == api.EvBoth {
		e.Datas = anyDeps(source, r.Events, number)
	}
	return e
}

// anyNumber is mostly a small one, about some numbers of events.
func anyNumber(source *rand.Rand) int {
	if source.Intn(20) == 0 {
		return []int{math.MinInt, math.MaxInt, 1 << 32, -1 << 31}[source.Intn(4)]
	}
	return source.Intn(24) - 2
}

// anyList is a list with a number more, one fewer, or one otherwise.
func anyList(source *rand.Rand, list []int) []int {
	i := source.Intn(len(list) + 1)
	switch {
	case source.Intn(3) == 0:
		return slices.Insert(list, i, anyNumber(source))
	case i == len(list):
		return nil
	case source.Intn(2) == 0:
		return slices.Delete(list, i, i+1)
	case source.Intn(2) == 0:
		list[i], list[0] = list[0], list[i]
		return list
	}
	list[i] = anyNumber(source)
	return list
}

// disturb changes a part of an execution, often such that it may not be any more.
func disturb(source *rand.Rand, e *api.Execution) {
	if len(e.Events) == 0 {
		e.Events = append(e.Events, api.Event{Kind: api.EventKind(source.Intn(6))})
		return
	}
	i, j := source.Intn(len(e.Events)), source.Intn(len(e.Events))
	v := &e.Events[i]
	changes := []func(){
		func() { v.Hart = source.Intn(7) - 2 },
		func() { v.Kind = api.EventKind(source.Intn(8) - 1) },
		func() { v.Addr ^= uint32(1) << source.Intn(32) },
		func() { v.Value = uint32(source.Intn(4)) },
		func() { v.ReadValue = uint32(source.Intn(4)) },
		func() { v.Aq = !v.Aq },
		func() { v.Rl = !v.Rl },
		func() { v.Pred = source.Intn(6) - 1 },
		func() { v.Succ = source.Intn(6) - 1 },
		func() { v.Reserved = !v.Reserved },
		func() { v.Addrs = anyList(source, v.Addrs) },
		func() { v.Datas = anyList(source, v.Datas) },
		func() { v.Ctrls = anyList(source, v.Ctrls) },
		func() { e.Events[i], e.Events[j] = e.Events[j], e.Events[i] },
		func() { e.Events = slices.Delete(e.Events, i, i+1) },
		func() { e.Events = slices.Insert(e.Events, i, e.Events[j]) },
		func() { e.From = anyList(source, e.From) },
		func() { e.From[min(i, len(e.From)-1)] = anyNumber(source) },
		func() {
			if len(e.Order) > 0 {
				i := source.Intn(len(e.Order))
				e.Order[i] = anyList(source, e.Order[i])
			}
		},
		func() { e.Order = append(e.Order, []int{anyNumber(source)}) },
		func() { e.Order = e.Order[:source.Intn(len(e.Order)+1)] },
		func() { slices.Reverse(e.Order) },
	}
	changes[source.Intn(len(changes))]()
}

// TestP6_1Any holds Check against the chapter told again, of executions that may be and of such that are disturbed.
func TestP6_1Any(t *testing.T) {
	source := rand.New(rand.NewSource(61))
	met := map[api.Errno]int{}
	for range 10000 {
		e := anyExecution(source)
		if err := events.Check(e); err != api.OK {
			t.Fatalf("%v: %v", e, err)
		}
		for range 1 + source.Intn(3) {
			if len(e.From) > 0 {
				disturb(source, &e)
			}
		}
		kept := copied(e)
		want := retold{e}.check()
		if err := events.Check(e); err != want {
			t.Fatalf("%v: %v, want %v", e, err, want)
		}
		met[want]++
		for i, l := range relations(e) {
			if want != api.OK && l != nil {
				t.Fatalf("%v may not be, and relation %d has %v", e, i, l)
			}
		}
		if !reflect.DeepEqual(e, kept) {
			t.Fatalf("%v has changed, it was %v", e, kept)
		}
	}
	for _, err := range []api.Errno{api.OK, api.ErrEvent, api.ErrFrom, api.ErrOrder} {
		if met[err] < 300 {
			t.Errorf("%v is met only %d times", err, met[err])
		}
	}
}

// TestP6_2Any holds the four relations against the chapter told again, and Same against their parts.
func TestP6_2Any(t *testing.T) {
	source := rand.New(rand.NewSource(62))
	for range 5000 {
		e := anyExecution(source)
		got, want := relations(e), retold{e}.relations()
		for i := range got {
			if !slices.Equal(got[i], want[i]) {
				t.Fatalf("%v: relation %d has %v, want %v", e, i, got[i], want[i])
			}
		}
		other := copied(e)
		if !events.Same(e, other) {
			t.Fatalf("%v is not the same as its copy", e)
		}
		if len(e.From) > 0 {
			disturb(source, &other)
			if got := events.Same(e, other); got && !sameParts(e, other) || !got && reflect.DeepEqual(e, other) {
				t.Fatalf("%v, %v are the same: %v", e, other, got)
			}
		}
	}
}

// sameParts tells whether two are the same where nil is as empty.
func sameParts(a, b api.Execution) bool {
	return reflect.DeepEqual(filledIn(a), filledIn(b))
}

// filledIn has empty lists for nil ones.
func filledIn(e api.Execution) api.Execution {
	e = copied(e)
	fill := func(l *[]int) { *l = append([]int{}, *l...) }
	for i := range e.Events {
		v := &e.Events[i]
		fill(&v.Addrs)
		fill(&v.Datas)
		fill(&v.Ctrls)
	}
	for i := range e.Order {
		fill(&e.Order[i])
	}
	fill(&e.From)
	e.Events, e.Order = append([]api.Event{}, e.Events...), append([][]int{}, e.Order...)
	return e
}

// TestP6_4Order asks for what follows of Co and Fr.
func TestP6_4Order(t *testing.T) {
	source := rand.New(rand.NewSource(46))
	for range 2000 {
		e := anyExecution(source)
		co, fr, rf := events.Co(e), events.Fr(e), events.Rf(e)
		for _, p := range co {
			for _, q := range co {
				if p.B == q.A && !slices.Contains(co, api.Pair{A: p.A, B: q.B}) {
					t.Fatalf("%v: Co has %v and %v, but not what goes on", e, p, q)
				}
			}
		}
		for _, addr := range (retold{e}).addrs() {
			stores := retold{e}.stores(addr)
			for i, a := range stores {
				for _, b := range stores[i+1:] {
					if slices.Contains(co, api.Pair{A: a, B: b}) == slices.Contains(co, api.Pair{A: b, B: a}) {
						t.Fatalf("%v: of %d and %d not one is ahead", e, a, b)
					}
				}
			}
		}
		for _, p := range fr {
			if slices.Contains(rf, api.Pair{A: p.B, B: p.A}) {
				t.Fatalf("%v: Fr has %v, and Rf it the other way round", e, p)
			}
		}
	}
}
