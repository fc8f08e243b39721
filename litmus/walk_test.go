package litmus_test

import (
	"math"
	"math/rand"
	"slices"
	"testing"

	"quadrille/api"
	"quadrille/events"
	"quadrille/litmus"
)

// TestP9_2Any holds the executions of any tests against the chapter told again.
func TestP9_2Any(t *testing.T) {
	source := rand.New(rand.NewSource(92))
	round, alone, most := 0, 0, 0
	for n := range 2500 {
		v := anyTest(source, 4+n%3)
		r := retell(v)
		want, none := r.executions()
		if len(want)+none > 1500 {
			continue // others are enough, in less time
		}
		got := all(v)
		if !sameAll(got, want) {
			t.Fatalf("%v: All tells %v, want %v", v, got, want)
		}
		for i, e := range got {
			if err := events.Check(e); err != api.OK {
				t.Fatalf("%v: %v may not be: %v", v, e, err)
			}
			if i > 0 && compare(got[i-1], e) >= 0 {
				t.Fatalf("%v: %v is told ahead of %v", v, got[i-1], e)
			}
		}
		if none > 0 {
			round++
		}
		if len(got) == 1 {
			alone++
		}
		most = max(most, len(got))
	}
	if round < 100 || alone < 50 || most < 500 {
		t.Errorf("met only %d where values go round, %d of one execution, %d executions at most", round, alone, most)
	}
}

// walked is a test of some executions that has all that they may have.
func walked(t *testing.T) api.Test {
	return parsed(t, "hart\nr1 = x\nif r1\nr2 = add y r1 by r1\nfence rw rw\nx = 1\nhart\nr1 = y aq\ny = r1 rl\nhart\nr4 = x\n")
}

// TestP9_2MayNotBe has iterators of tests that may not be: they are there, and tell nothing.
func TestP9_2MayNotBe(t *testing.T) {
	for name, v := range refused() {
		seq := litmus.All(v)
		if seq == nil {
			t.Fatalf("%s: there is no iterator", name)
		}
		for range 2 {
			for e := range seq {
				t.Errorf("%s: All tells %v", name, e)
			}
		}
	}
}

// TestP9_2Left leaves at each place, and goes over all again.
func TestP9_2Left(t *testing.T) {
	v := walked(t)
	seq := litmus.All(v)
	want := all(v)
	if len(want) < 20 {
		t.Fatalf("only %d executions", len(want))
	}
	for place := range len(want) + 1 {
		var got []api.Execution
		for e := range seq {
			if len(got) == place {
				break
			}
			got = append(got, e)
		}
		if !sameAll(got, want[:place]) {
			t.Errorf("left at %d: %v", place, got)
		}
	}
	for range 2 {
		if !sameAll(slices.Collect(seq), want) {
			t.Error("gone over again, it tells others")
		}
	}
	for _, text := range []string{"hart\n", "hart\nr1 = x\n", "hart\nx = 1\nx = 2\nr1 = x\nr1 = y\n"} {
		for place := range len(all(parsed(t, text))) {
			calls := 0
			litmus.All(parsed(t, text))(func(api.Execution) bool { calls++; return calls <= place })
			if calls != place+1 {
				t.Errorf("%q: %d are told, left at %d", text, calls, place)
			}
		}
	}
}

// TestP9_2Within goes over them while it goes over them.
func TestP9_2Within(t *testing.T) {
	v := parsed(t, "hart\nr1 = x\nx = r1\nx = 1\nhart\nr1 = add x 1\n")
	seq, want := litmus.All(v), all(v)
	i := 0
	for e := range seq {
		inner := slices.Collect(seq)
		if !sameAll(inner, want) || !events.Same(e, want[i]) {
			t.Fatalf("within %d: %v", i, inner)
		}
		i++
	}
	if i != len(want) {
		t.Errorf("%d are told, not %d", i, len(want))
	}
}

// panicked goes over executions and gives up at the first one: that goes through to whoever asked.
func panicked(v api.Test) (why any) {
	defer func() { why = recover() }()
	for range litmus.All(v) {
		panic("given up")
	}
	return nil
}

// TestP9_2Panic gives up in the middle.
func TestP9_2Panic(t *testing.T) {
	v := walked(t)
	if why := panicked(v); why != "given up" {
		t.Errorf("it gave up with %v", why)
	}
	if len(all(v)) < 20 {
		t.Error("behind it there are fewer")
	}
}

// TestP9_2Changed changes a test behind All: what is told is what was handed in.
func TestP9_2Changed(t *testing.T) {
	v := walked(t)
	want := all(v)
	seq := litmus.All(v)
	for _, steps := range v.Threads {
		for i := range steps {
			steps[i] = store(z, 9)
		}
	}
	v.Threads[0] = nil
	if !sameAll(slices.Collect(seq), want) {
		t.Error("changed ahead of the going over, it tells others")
	}
	v = walked(t)
	i := 0
	for e := range litmus.All(v) {
		if !events.Same(e, want[i]) {
			t.Fatalf("changed in the middle, %d is %v, want %v", i, e, want[i])
		}
		i++
		v.Threads[0][0], v.Threads[1] = branch(1), nil
	}
	// And one that may not be stays so.
	v = test(thread(load(5, x)))
	seq = litmus.All(v)
	v.Threads[0][0].Reg = 1
	if len(slices.Collect(seq)) != 0 {
		t.Error("changed to one that may be, it tells some")
	}
}

// lists are all lists of numbers that an execution has.
func lists(e api.Execution) (l [][]int) {
	l = append(l, e.From)
	l = append(l, e.Order...)
	for _, v := range e.Events {
		l = append(l, v.Addrs, v.Datas, v.Ctrls)
	}
	return l
}

// TestP9_2Own writes over one list after the other, spare room behind it included, and asks whether all others stay; then over all the rest.
func TestP9_2Own(t *testing.T) {
	v := walked(t)
	before := copied(v)
	seq := litmus.All(v)
	want := slices.Collect(seq)[:6]
	got := slices.Collect(seq)[:6]
	for i := range got {
		for j, list := range lists(got[i]) {
			list = list[:cap(list)]
			for k := range list {
				list[k] = 77
			}
			for k := range got {
				for m, other := range lists(got[k]) {
					if (k > i || k == i && m > j) && !slices.Equal(other, lists(want[k])[m]) {
						t.Fatalf("list %d of %d shares with list %d of %d", m, k, j, i)
					}
				}
			}
		}
		for j := range got[i].Events[:cap(got[i].Events)] {
			got[i].Events[:cap(got[i].Events)][j] = api.Event{Hart: 77}
		}
		for j := range got[i].Order[:cap(got[i].Order)] {
			got[i].Order[:cap(got[i].Order)][j] = []int{77}
		}
		for k := i + 1; k < len(got); k++ {
			if !events.Same(got[k], want[k]) {
				t.Fatalf("%d shares with %d", k, i)
			}
		}
	}
	if !sameAll(slices.Collect(seq)[:6], want) || !litmus.Same(v, before) {
		t.Error("what was told is kept")
	}
	// Also where it is changed as it is told.
	i := 0
	for e := range seq {
		if i < len(want) && !events.Same(e, want[i]) {
			t.Fatalf("changed in the middle, %d is %v", i, e)
		}
		i++
		e.Events[0], e.From[3], e.Order[0] = api.Event{}, 77, nil
		for _, list := range lists(e) {
			clear(list)
		}
	}
}

// holdOutcome holds what each of a test's executions leaves, one behind the other.
func holdOutcome(t *testing.T, text string, want ...api.Outcome) {
	t.Helper()
	v := parsed(t, text)
	l := all(v)
	if len(l) != len(want) {
		t.Fatalf("%q: %d executions, want %d", text, len(l), len(want))
	}
	for i, e := range l {
		if got, err := litmus.Outcome(v, e); err != api.OK || !sameOutcome(got, want[i]) {
			t.Errorf("%q: %d leaves %v, %v, want %v", text, i, got, err, want[i])
		}
	}
}

// leaves is an outcome of registers by threads, and of variables.
func leaves(vars [4]uint32, regs ...[4]uint32) api.Outcome {
	return api.Outcome{Regs: regs, Vars: vars}
}

// TestP9_2Outcome has what some executions leave, also of registers and variables that nothing touches.
func TestP9_2Outcome(t *testing.T) {
	type four = [4]uint32
	holdOutcome(t, "hart\n", leaves(four{}, four{}))
	holdOutcome(t, "hart\nhart\nhart\nif r1\nfence w w\nhart\n", leaves(four{}, four{}, four{}, four{}, four{}))
	holdOutcome(t, "hart\nz = 7\nhart\n", leaves(four{0, 0, 7, 0}, four{}, four{}))
	holdOutcome(t, "hart\nhart\nr3 = w\n", leaves(four{}, four{}, four{}))
	holdOutcome(t, "hart\nr4 = w\nhart\nw = 9\n",
		leaves(four{0, 0, 0, 9}, four{}, four{}),
		leaves(four{0, 0, 0, 9}, four{0, 0, 0, 9}, four{}))
	holdOutcome(t, "hart\nr2 = swap y 5\n", leaves(four{0, 5, 0, 0}, four{}))
	holdOutcome(t, "hart\nr2 = y\nr2 = x\nr1 = y\nhart\ny = 6\n", // the last load of a register counts, in program order
		leaves(four{0, 6, 0, 0}, four{}, four{}),
		leaves(four{0, 6, 0, 0}, four{6, 0, 0, 0}, four{}),
		leaves(four{0, 6, 0, 0}, four{}, four{}),
		leaves(four{0, 6, 0, 0}, four{6, 0, 0, 0}, four{}))
	holdOutcome(t, "hart\nx = 1\nx = 2\n", // the last store of a variable counts, in coherence order
		leaves(four{2, 0, 0, 0}, four{}),
		leaves(four{1, 0, 0, 0}, four{}))
	holdOutcome(t, "hart\nr1 = add x 4294967295\nhart\nr1 = add x 3\n",
		leaves(four{3, 0, 0, 0}, four{}, four{}),
		leaves(four{math.MaxUint32, 0, 0, 0}, four{}, four{}),
		leaves(four{2, 0, 0, 0}, four{}, four{math.MaxUint32, 0, 0, 0}),
		leaves(four{math.MaxUint32, 0, 0, 0}, four{}, four{math.MaxUint32, 0, 0, 0}),
		leaves(four{3, 0, 0, 0}, four{3, 0, 0, 0}, four{}),
		leaves(four{2, 0, 0, 0}, four{3, 0, 0, 0}, four{}))
	holdOutcome(t, "hart\nr1 = x\nhart\nr2 = x\nhart\nr3 = x\nhart\nr4 = x\n", leaves(four{}, four{}, four{}, four{}, four{}))
	holdOutcome(t, "hart\nx = 1\ny = 2\nz = 3\nw = 4\n", leaves(four{1, 2, 3, 4}, four{}))
	holdOutcome(t, "hart\nr1 = x\nr2 = y\nhart\nx = 1\ny = 2\n",
		leaves(four{1, 2, 0, 0}, four{}, four{}),
		leaves(four{1, 2, 0, 0}, four{0, 2, 0, 0}, four{}),
		leaves(four{1, 2, 0, 0}, four{1, 0, 0, 0}, four{}),
		leaves(four{1, 2, 0, 0}, four{1, 2, 0, 0}, four{}))
}

// TestP9_2OutcomeAny holds what any tests' executions leave, allowed or not, against the chapter told again.
func TestP9_2OutcomeAny(t *testing.T) {
	source := rand.New(rand.NewSource(93))
	for range 1000 {
		v := anyTest(source, 5)
		r := retell(v)
		before := copied(v)
		for i, e := range all(v) {
			if i == 100 {
				break
			}
			kept := copiedExecution(e)
			got, err := litmus.Outcome(v, e)
			if want := r.outcome(e); err != api.OK || !sameOutcome(got, want) {
				t.Fatalf("%v: %v leaves %v, %v, want %v", v, e, got, err, want)
			}
			if !events.Same(e, kept) || !litmus.Same(v, before) {
				t.Fatal("what was handed in is changed")
			}
		}
	}
}

// copiedExecution shares nothing with what it is a copy of.
func copiedExecution(e api.Execution) api.Execution {
	c := api.Execution{Events: slices.Clone(e.Events), From: slices.Clone(e.From)}
	for i := range c.Events {
		v := &c.Events[i]
		v.Addrs, v.Datas, v.Ctrls = slices.Clone(v.Addrs), slices.Clone(v.Datas), slices.Clone(v.Ctrls)
	}
	for _, list := range e.Order {
		c.Order = append(c.Order, slices.Clone(list))
	}
	return c
}

// refuseOutcome holds that an execution is none of a test's.
func refuseOutcome(t *testing.T, name string, v api.Test, e api.Execution) {
	t.Helper()
	if o, err := litmus.Outcome(v, e); err != api.ErrArg || len(o.Regs) != 0 || o.Vars != [variables]uint32{} {
		t.Errorf("%s: Outcome is %v, %v", name, o, err)
	}
}

// TestP9_2OutcomeOther has executions of other tests, and those that are nobody's.
func TestP9_2OutcomeOther(t *testing.T) {
	texts := []string{
		"hart\n", "hart\nfence rw rw\n", "hart\nfence rw w\n", "hart\nhart\nfence rw rw\n", "hart\nr1 = x\n", "hart\nr1 = y\n", "hart\nhart\nr1 = x\n", "hart\nx = 1\n", "hart\nx = 2\n", "hart\nx = 1 aq\n", "hart\nx = 1 rl\n",
		"hart\nr1 = x\nr2 = x\n", "hart\nr1 = x\nr2 = x by r1\n", "hart\nr1 = x\nif r1\nr2 = x\n", "hart\nr1 = swap x 1\n", "hart\nr1 = swap x 2\n", "hart\nr1 = x\nx = 1\n", "hart\nr1 = x\nhart\nx = 1\n", "hart\nr1 = x\nhart\nx = 2\n", "hart\nr1 = x\ny = r1\n", "hart\nr1 = x\ny = 0\n", "hart\nx = 1\nx = 2\n", "hart\nx = 2\nx = 1\n",
	}
	for i, text := range texts {
		v := parsed(t, text)
		for j, other := range texts {
			for _, e := range all(parsed(t, other)) {
				if i != j {
					refuseOutcome(t, text+other, v, e)
				} else if _, err := litmus.Outcome(v, e); err != api.OK {
					t.Errorf("%q: Outcome is %v", text, err)
				}
			}
		}
	}
	v := walked(t)
	refuseOutcome(t, "nothing", v, api.Execution{})
	refuseOutcome(t, "much", v, api.Execution{Events: make([]api.Event, 100000), From: make([]int, 100000), Order: make([][]int, 100000)})
	e := all(v)[0]
	for name, no := range refused() {
		refuseOutcome(t, name, no, e)
		refuseOutcome(t, name, no, api.Execution{})
	}
	// One whose values go round, each of them 0, may be, but is no test's.
	v = parsed(t, "hart\nr1 = x\ny = r1\nhart\nr1 = y\nx = r1\n")
	e = all(v)[0]
	e.From = []int{-1, -1, 5, -1, 3, -1}
	if err := events.Check(e); err != api.OK {
		t.Fatalf("it may not be: %v", err)
	}
	refuseOutcome(t, "round", v, e)
}

// TestP9_2OutcomeTurned has executions of which one thing is turned.
func TestP9_2OutcomeTurned(t *testing.T) {
	v := walked(t)
	l := all(v)
	turn := func(name string, change func(e *api.Execution)) {
		t.Helper()
		for _, e := range l {
			e = copiedExecution(e)
			change(&e)
			if !slices.ContainsFunc(l, func(one api.Execution) bool { return events.Same(one, e) }) {
				refuseOutcome(t, name, v, e)
			}
		}
	}
	for number := range l[0].Events {
		for name, change := range map[string]func(e *api.Event){
			"Hart":      func(e *api.Event) { e.Hart++ },
			"Kind":      func(e *api.Event) { e.Kind++ },
			"Addr":      func(e *api.Event) { e.Addr += 4 },
			"Value":     func(e *api.Event) { e.Value++ },
			"ReadValue": func(e *api.Event) { e.ReadValue++ },
			"Aq":        func(e *api.Event) { e.Aq = !e.Aq },
			"Rl":        func(e *api.Event) { e.Rl = !e.Rl },
			"Pred":      func(e *api.Event) { e.Pred-- },
			"Succ":      func(e *api.Event) { e.Succ-- },
			"Reserved":  func(e *api.Event) { e.Reserved = true },
			"Addrs":     func(e *api.Event) { e.Addrs = append(e.Addrs, 2) },
			"Datas":     func(e *api.Event) { e.Datas = append(e.Datas, 2) },
			"Ctrls":     func(e *api.Event) { e.Ctrls = append(e.Ctrls, 2) },
			"no Addrs":  func(e *api.Event) { e.Addrs = []int{-7}[:1-min(1, len(e.Addrs))] },
			"no Datas":  func(e *api.Event) { e.Datas = []int{-7}[:1-min(1, len(e.Datas))] },
			"no Ctrls":  func(e *api.Event) { e.Ctrls = []int{-7}[:1-min(1, len(e.Ctrls))] },
		} {
			turn(name, func(e *api.Execution) { change(&e.Events[number]) })
		}
		for _, from := range []int{-2, -1, 0, 1, 2, 3, 4, 5, 6, 7, 8, math.MinInt, math.MaxInt, 1 << 32} {
			turn("From", func(e *api.Execution) { e.From[number] = from })
		}
	}
	for _, place := range []int{-1, 0, 1, 2, 3, 5, 6, 7, 8, math.MinInt, math.MaxInt, 1 << 32} {
		for list, stores := range l[0].Order {
			for i := range stores {
				turn("Order", func(e *api.Execution) { e.Order[list][i] = place })
			}
			turn("more in Order", func(e *api.Execution) { e.Order[list] = append(e.Order[list], place) })
		}
	}
	turn("begin last", func(e *api.Execution) { slices.Reverse(e.Order[1]) })
	turn("lists", func(e *api.Execution) { slices.Reverse(e.Order) })
	turn("a list less", func(e *api.Execution) { e.Order = e.Order[:1] })
	turn("a list more", func(e *api.Execution) { e.Order = append(e.Order, nil) })
	turn("no list", func(e *api.Execution) { e.Order = nil })
	turn("an empty list", func(e *api.Execution) { e.Order[0] = nil })
	turn("a shorter list", func(e *api.Execution) { e.Order[1] = e.Order[1][:1] })
	turn("no From", func(e *api.Execution) { e.From = nil })
	turn("a shorter From", func(e *api.Execution) { e.From = e.From[:len(e.From)-1] })
	turn("a longer From", func(e *api.Execution) { e.From = append(e.From, -1) })
	turn("no event", func(e *api.Execution) { e.Events = nil })
	turn("an event less", func(e *api.Execution) { e.Events = e.Events[:len(e.Events)-1] })
	turn("an event more", func(e *api.Execution) { e.Events = append(e.Events, api.Event{Hart: 1, Kind: api.EvFence}) })
	turn("events", func(e *api.Execution) { e.Events[0], e.Events[1] = e.Events[1], e.Events[0] })
}

// TestP9_2OutcomeEmpty has nil and empty for each other.
func TestP9_2OutcomeEmpty(t *testing.T) {
	v := walked(t)
	for _, e := range all(v) {
		want, _ := litmus.Outcome(v, e)
		for i := range e.Events {
			o := &e.Events[i]
			o.Addrs, o.Datas, o.Ctrls = append([]int{}, o.Addrs...), append([]int{}, o.Datas...), append([]int{}, o.Ctrls...)
		}
		if got, err := litmus.Outcome(v, e); err != api.OK || !sameOutcome(got, want) {
			t.Errorf("%v: Outcome is %v, %v, want %v", e, got, err, want)
		}
	}
	for _, e := range []api.Execution{{}, {Events: []api.Event{}, From: []int{}, Order: [][]int{}}} {
		for _, v := range []api.Test{test(nil), test(thread()), test(thread(branch(1)))} {
			if o, err := litmus.Outcome(v, e); err != api.OK || !sameOutcome(o, leaves([4]uint32{}, [4]uint32{})) {
				t.Errorf("Outcome of nothing is %v, %v", o, err)
			}
		}
	}
}
