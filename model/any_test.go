package model_test

import (
	"math/rand"
	"reflect"
	"slices"
	"testing"

	"quadrille/api"
	"quadrille/events"
	"quadrille/model"
	"quadrille/order"
)

// retold is what the chapter says of an execution that may be, told again from the execution itself; of layer 7 it takes what must stay in order, and who is paired.
type retold struct {
	api.Execution
	kept map[api.Pair]bool
	rank []int // where a store stands in its word's list
}

func retell(x api.Execution) retold {
	r := retold{x, map[api.Pair]bool{}, make([]int, len(x.Events))}
	pairs, _ := order.Ppo(x)
	for _, pair := range pairs {
		r.kept[pair] = true
	}
	for _, list := range x.Order {
		for rank, number := range list {
			r.rank[number] = rank
		}
	}
	return r
}

// behind tells whether b is a store of a word that comes behind the store a of it.
func (r retold) behind(a, b int) bool {
	return events.Stores(r.Events[b]) && r.Events[a].Addr == r.Events[b].Addr && r.rank[b] > r.rank[a]
}

// common tells the arrows that coherent and in order have both: Co and Fr.
func (r retold) common(a, b int) bool {
	if a == b {
		return false
	}
	return events.Stores(r.Events[a]) && r.behind(a, b) || r.From[a] >= 0 && r.behind(r.From[a], b)
}

// byCode tells program order.
func (r retold) byCode(a, b int) bool {
	return a < b && r.Events[a].Hart == r.Events[b].Hart && r.Events[a].Kind != api.EvBegin
}

func (r retold) coherence(a, b int) bool {
	accesses := r.Events[a].Kind != api.EvFence && r.Events[b].Kind != api.EvFence
	return r.common(a, b) || r.From[b] == a || accesses && r.byCode(a, b) && r.Events[a].Addr == r.Events[b].Addr
}

func (r retold) arrow(a, b int) bool {
	return r.common(a, b) || r.From[b] == a && r.Events[a].Hart != r.Events[b].Hart || r.kept[api.Pair{A: a, B: b}]
}

// round tells whether arrows lead from an event back to it, by what is reached in any number of steps.
func (r retold) round(arrow func(a, b int) bool) bool {
	var reach [api.MaxEvents][api.MaxEvents]bool
	for a := range r.Events {
		for b := range r.Events {
			reach[a][b] = arrow(a, b)
		}
	}
	for m := range r.Events {
		for a := range r.Events {
			for b := range r.Events {
				reach[a][b] = reach[a][b] || reach[a][m] && reach[m][b]
			}
		}
	}
	for a := range r.Events {
		if reach[a][a] {
			return true
		}
	}
	return false
}

// atomic goes over the lists from what is read from to what stores.
func (r retold) atomic() bool {
	for number, e := range r.Events {
		from := -1
		if load, is := order.Paired(r.Execution, number); is {
			from = r.From[load]
		}
		if e.Kind == api.EvBoth {
			from = r.From[number]
		}
		if from < 0 {
			continue
		}
		list := r.Order[e.Addr/4]
		for rank := r.rank[from] + 1; rank < r.rank[number]; rank++ {
			if r.Events[list[rank]].Hart != e.Hart {
				return false
			}
		}
	}
	return true
}

func (r retold) verdict() api.Verdict {
	return api.Verdict{Coherent: !r.round(r.coherence), Ordered: !r.round(r.arrow), Atomic: r.atomic()}
}

// first finds the first of all orders in which no arrow goes back, by trying them in their order.
func (r retold) first(taken, left []int) []int {
	if len(left) == 0 {
		return taken
	}
	for i, number := range left {
		goesBack := slices.ContainsFunc(taken, func(before int) bool { return r.arrow(number, before) })
		if goesBack {
			return nil // wherever it is taken from here on
		}
		next := append(slices.Clone(taken), number)
		if l := r.first(next, slices.Delete(slices.Clone(left), i, i+1)); l != nil {
			return l
		}
	}
	return nil
}

// anyAccesses is an event that is no fence, of one of some words, or an lr and its sc.
func anyAccesses(source *rand.Rand, words int) []api.Event {
	addr := uint32(4 * source.Intn(words))
	kinds := [][]api.Event{{load(addr)}, {load(addr)}, {store(addr)}, {store(addr)}, {both(addr)}, {lr(addr)}, {sc(addr)}, {lr(addr), sc(addr)}, {lr(addr), sc(addr)}}
	l := kinds[source.Intn(len(kinds))]
	l[0].Aq, l[len(l)-1].Rl = source.Intn(6) == 0, source.Intn(6) == 0
	return l
}

// hung gives an event some deps.
func hung(source *rand.Rand, l []api.Event, number int) api.Event {
	e := l[number]
	some := func() (deps []int) {
		for i, on := range l[:number] {
			if on.Hart == e.Hart && events.Loads(on) && source.Intn(5) == 0 {
				deps = append(deps, i+begins)
			}
		}
		return deps
	}
	e.Ctrls = some()
	if e.Kind != api.EvFence {
		e.Addrs = some()
	}
	if events.Stores(e) {
		e.Datas = some()
	}
	return e
}

// anyExecution is one that may be, of some accesses, and fences, of some harts; often as if they had been done one by one.
func anyExecution(source *rand.Rand, accesses int) api.Execution {
	words, harts := 1+source.Intn(begins), 1+source.Intn(api.MaxHarts)
	var l []api.Event
	for left := source.Intn(accesses + 1); left > 0; {
		hart := source.Intn(harts)
		if source.Intn(3) == 0 {
			l = append(l, of(hart, fence(source.Intn(4), source.Intn(4))))
		}
		for _, e := range anyAccesses(source, words) {
			if left > 0 {
				l = append(l, of(hart, e))
				left--
			}
		}
	}
	slices.SortStableFunc(l, func(a, b api.Event) int { return a.Hart - b.Hart })
	for number := range l {
		l[number] = hung(source, l, number)
	}
	x := execution(l...)
	ways := source.Intn(3)
	if ways > 0 {
		run(source, x)
	}
	for number, from := range x.From {
		if from >= 0 && (ways == 0 || ways == 1 && source.Intn(8) == 0) {
			may := slices.DeleteFunc(slices.Clone(x.Order[x.Events[number].Addr/4]), func(s int) bool { return s == number })
			x.From[number] = may[source.Intn(len(may))]
		}
	}
	for _, list := range x.Order {
		if ways == 0 {
			source.Shuffle(len(list)-1, func(i, j int) { list[i+1], list[j+1] = list[j+1], list[i+1] })
		}
	}
	return x
}

// run has stores come, and loads read, as accesses are done one by one: each hart's in any order, but for those of one word.
func run(source *rand.Rand, x api.Execution) {
	var left []int
	for word := range x.Order {
		x.Order[word] = x.Order[word][:1]
	}
	for number := begins; number < len(x.Events); number++ {
		if x.Events[number].Kind != api.EvFence {
			left = append(left, number)
		}
	}
	for len(left) > 0 {
		i := source.Intn(len(left))
		e := x.Events[left[i]]
		waits := func(other int) bool { return x.Events[other].Hart == e.Hart && x.Events[other].Addr == e.Addr }
		i = slices.IndexFunc(left, waits) // the first of its hart and word
		number, list := left[i], &x.Order[e.Addr/4]
		if x.From[number] >= 0 {
			x.From[number] = (*list)[len(*list)-1]
		}
		if events.Stores(x.Events[number]) {
			*list = append(*list, number)
		}
		left = slices.Delete(left, i, i+1)
	}
}

// TestP8_1Any holds what is judged of any executions against the chapter told again: each verdict is met, and nothing is changed.
func TestP8_1Any(t *testing.T) {
	source := rand.New(rand.NewSource(81))
	met := map[api.Verdict]int{}
	for range 10000 {
		x := anyExecution(source, 1+source.Intn(18))
		kept := copied(x)
		want := retell(x).verdict()
		if got, err := model.Judge(x); err != api.OK || got != want {
			t.Fatalf("%v: Judge is %v, %v, want %v", x, got, err, want)
		}
		if got, err := model.Allowed(x); err != api.OK || got != (want == verdict("coa")) {
			t.Fatalf("%v: Allowed is %v, %v, the verdict %v", x, got, err, want)
		}
		if !reflect.DeepEqual(x, kept) {
			t.Fatalf("%v has changed, it was %v", x, kept)
		}
		met[want]++
	}
	for _, parts := range []string{"", "c", "o", "a", "co", "ca", "oa", "coa"} {
		if many := met[verdict(parts)]; many < 15 {
			t.Errorf("%q is met only %d times", parts, many)
		}
	}
}

// TestP8_2Any holds Arrows and Global of any executions against the chapter told again.
func TestP8_2Any(t *testing.T) {
	source := rand.New(rand.NewSource(82))
	met := map[bool]int{}
	for range 6000 {
		x := anyExecution(source, 8)
		r := retell(x)
		var want []api.Pair
		var placed []int
		for a, e := range x.Events {
			for b := range x.Events {
				if r.arrow(a, b) {
					want = append(want, api.Pair{A: a, B: b})
				}
			}
			if e.Kind != api.EvFence {
				placed = append(placed, a)
			}
		}
		if got, err := model.Arrows(x); err != api.OK || !slices.Equal(got, want) {
			t.Fatalf("%v: Arrows is %v, %v, want %v", x, got, err, want)
		}
		first := r.first(nil, placed)
		if got, is := model.Global(x); is != (first != nil) || !slices.Equal(got, first) {
			t.Fatalf("%v: Global is %v, %v, want %v", x, got, is, first)
		}
		met[first != nil]++
	}
	if met[true] < 500 || met[false] < 500 {
		t.Errorf("met only %v", met)
	}
}
