package litmus_test

import (
	"math"
	"testing"

	"quadrille/api"
	"quadrille/litmus"
)

// holdCheck holds Check, and what the other calls make of it.
func holdCheck(t *testing.T, name string, v api.Test, may bool) {
	t.Helper()
	want := api.ErrArg
	if may {
		want = api.OK
	}
	if got := litmus.Check(v); got != want {
		t.Errorf("%s: Check is %v, want %v", name, got, want)
		return // what may not be may have more ways than can be gone
	}
	if text, err := litmus.Print(v); err != want || may == (text == "") {
		t.Errorf("%s: Print is %q, %v, want %v", name, text, err, want)
	}
	if !may {
		if l, err := litmus.Outcomes(v); err != want || len(l) != 0 {
			t.Errorf("%s: Outcomes is %v, %v, want %v", name, l, err, want)
		}
		if o, err := litmus.Outcome(v, api.Execution{}); err != want || len(o.Regs) != 0 || o.Vars != [variables]uint32{} {
			t.Errorf("%s: Outcome is %v, %v, want %v", name, o, err, want)
		}
		if l := all(v); len(l) != 0 {
			t.Errorf("%s: All tells %v", name, l)
		}
	}
}

// TestP9_1CheckBounds has each bound and one past it.
func TestP9_1CheckBounds(t *testing.T) {
	full := times(api.MaxOps, branch(1))
	over := times(api.MaxOps+1, branch(1))
	for _, r := range []struct {
		name string
		test api.Test
		may  bool
	}{
		{"no thread", api.Test{}, false},
		{"no thread either", test(), false},
		{"one thread, no step", test(nil), true},
		{"one thread, no step either", test(thread()), true},
		{"4 threads", test(nil, nil, nil, nil), true},
		{"5 threads", test(nil, nil, nil, nil, nil), false},
		{"many threads", test(make([][]api.Step, 100000)...), false},
		{"16 steps", test(full), true},
		{"17 steps", test(over), false},
		{"16 steps in each", test(full, full, full, full), true},
		{"17 steps in the last", test(full, full, full, over), false},
		{"17 steps in the middle", test(nil, over, nil), false},
		{"16 fences", test(times(api.MaxOps, fence(3, 3))), true},
		{"17 fences", test(times(api.MaxOps+1, fence(3, 3))), false},
		{"many steps", test(times(100000, branch(1))), false},
		{"8 accesses", test(times(8, load(1, x))), true},
		{"9 accesses", test(times(9, load(1, x))), false},
		{"8 accesses in 4 threads", test(times(2, load(1, x)), times(2, load(1, y)), times(2, load(1, z)), times(2, load(1, w))), true},
		{"9 accesses in 4 threads", test(times(2, load(1, x)), times(2, load(1, y)), times(3, load(1, z)), times(2, load(1, w))), false},
		{"8 accesses of all Kinds", test(thread(load(1, x), store(y, 1), swap(1, z, 1), add(1, w, 1)), thread(load(1, y), store(x, 1), swap(1, w, 1), add(1, z, 1))), true},
		{"9 accesses of all Kinds", test(thread(load(1, x), store(y, 1), swap(1, z, 1), add(1, w, 1)), thread(load(1, y), store(x, 1), swap(1, w, 1), add(1, z, 1), load(1, x))), false},
		{"8 accesses, fences and branches", test(append(times(8, load(1, x)), times(4, fence(3, 3), branch(1))...), full), true},
		{"a step too few is no step", test(thread(branch(1), api.Step{}, branch(1))), false},
		{"a wrong step in the last thread", test(full, nil, thread(branch(1), branch(0))), false},
		{"more accesses than 32 bits have ways for", test(times(8, swap(1, x, 1))), false},
		{"more accesses than 64 bits have ways for", test(times(16, swap(1, x, 1)), times(16, swap(1, x, 1)), times(16, swap(1, x, 1)), times(16, swap(1, x, 1))), false},
	} {
		holdCheck(t, r.name, r.test, r.may)
	}
}

// TestP9_1CheckParts has each part of a step of each Kind in and out of its range, by itself.
func TestP9_1CheckParts(t *testing.T) {
	type span struct{ least, most int }
	type parts struct{ reg, variable, data, by, pred, succ span }
	none, register, maybe, sets := span{}, span{1, registers}, span{0, registers}, span{1, 3}
	for _, k := range []struct {
		step  api.Step
		parts parts
		num   bool
		marks bool
	}{
		{load(1, y), parts{register, span{0, w}, none, maybe, none, none}, false, true},
		{store(y, 0), parts{none, span{0, w}, maybe, maybe, none, none}, true, true},
		{swap(1, y, 0), parts{register, span{0, w}, maybe, maybe, none, none}, true, true},
		{add(1, y, 0), parts{register, span{0, w}, maybe, maybe, none, none}, true, true},
		{fence(1, 2), parts{none, none, none, none, sets, sets}, false, false},
		{branch(1), parts{register, none, none, none, none, none}, false, false},
	} {
		hold := func(part string, s api.Step, may bool) {
			t.Helper()
			want := api.ErrArg
			if may {
				want = api.OK
			}
			if got := litmus.Check(test(nil, thread(branch(2), s))); got != want {
				t.Errorf("%s: %+v is %v, want %v", part, s, got, want)
			}
		}
		for _, n := range []int{math.MinInt, -1 << 32, -2, -1, 0, 1, 2, 3, 4, 5, 6, 1 << 32, 1<<32 + 1, math.MaxInt} {
			set := func(part string, may span, change func(s *api.Step)) {
				t.Helper()
				s := k.step
				change(&s)
				hold(part, s, may.least <= n && n <= may.most)
			}
			set("Reg", k.parts.reg, func(s *api.Step) { s.Reg = n })
			set("Var", k.parts.variable, func(s *api.Step) { s.Var = n })
			set("Data", k.parts.data, func(s *api.Step) { s.Data = n })
			set("By", k.parts.by, func(s *api.Step) { s.By = n })
			set("Pred", k.parts.pred, func(s *api.Step) { s.Pred = n })
			set("Succ", k.parts.succ, func(s *api.Step) { s.Succ = n })
		}
		for _, num := range []uint32{1, 2, 1 << 31, math.MaxUint32} {
			s := k.step
			s.Num = num
			hold("Num", s, k.num)
			s.Data = 2
			hold("Data with Num", s, false)
		}
		for _, s := range []api.Step{aq(k.step), rl(k.step), aq(rl(k.step)), by(aq(rl(k.step)), 4)} {
			hold("marks", s, k.marks)
		}
	}
	for _, kind := range []api.StepKind{math.MinInt, -1, api.StepNone, api.StepIf + 1, math.MaxInt} {
		for _, s := range []api.Step{{}, load(1, x), store(x, 1), fence(1, 1), branch(1)} {
			s.Kind = kind
			holdCheck(t, "no Kind", test(thread(s)), false)
		}
	}
}

// of is how many accesses of a variable load, store, do both.
type of struct{ loads, stores, boths int }

// ways tells how many ways they make: of choices, one behind the other.
func (o of) ways() (all int64) {
	all = 1
	storing := int64(o.stores + o.boths)
	for range o.loads {
		all *= storing + 1
	}
	for range o.boths {
		all *= storing // the begin, and the others
	}
	for ; storing > 1; storing-- {
		all *= storing
	}
	return all
}

// steps is such accesses.
func (o of) steps(variable int) []api.Step {
	var l []api.Step
	for range o.boths {
		l = append(l, swap(1, variable, 1))
	}
	for range o.loads {
		l = append(l, load(2, variable))
	}
	for range o.stores {
		l = append(l, store(variable, 2))
	}
	return l
}

// TestP9_1CheckWays has all that accesses of two variables may be, with 8 accesses at most, and their ways; as nothing goes round, each way is an execution.
func TestP9_1CheckWays(t *testing.T) {
	var some []of
	for n := range 9 * 9 * 9 {
		if o := (of{n / 81, n / 9 % 9, n % 9}); o.loads+o.stores+o.boths <= 8 {
			some = append(some, o)
		}
	}
	met := map[bool]int{}
	var least, most int64 = math.MaxInt64, 0
	for _, a := range some {
		for _, b := range some {
			v := test(a.steps(x), b.steps(w))
			if len(v.Threads[0])+len(v.Threads[1]) > 8 {
				continue
			}
			ways := a.ways() * b.ways()
			may := ways <= api.MaxWays
			want := api.ErrArg
			if may {
				want, most = api.OK, max(most, ways)
			} else {
				least = min(least, ways)
			}
			if got := litmus.Check(v); got != want {
				t.Fatalf("%+v, %+v: %d ways, Check is %v", a, b, ways, got)
			}
			met[may]++
			if b != (of{}) && may && ways < 7000 {
				continue // the others are enough, in less time
			}
			if told := int64(len(all(v))); may && told != ways || !may && told != 0 {
				t.Errorf("%+v, %+v: %d ways, %d executions", a, b, ways, told)
			}
		}
	}
	// No test has 10000 ways: these are the next ones.
	if most != 9600 || least != 10368 || met[true] < 1000 || met[false] < 500 {
		t.Errorf("met only %v, ways up to %d, and from %d on", met, most, least)
	}
}

// TestP9_1CheckWaysRows has tests at the bound and past it.
func TestP9_1CheckWaysRows(t *testing.T) {
	for _, r := range []struct {
		name string
		test api.Test
		ways int
		may  bool
	}{
		{"stores alone, in 7!", test(times(7, store(x, 1))), 5040, true},
		{"stores alone, in 8!", test(times(8, store(x, 1))), 40320, false},
		{"a load beside them", test(times(7, store(x, 1)), thread(load(1, x))), 8 * 5040, false},
		{"a load of another variable", test(times(7, store(x, 1)), thread(load(1, y))), 5040, true},
		{"stores of two", test(times(4, store(x, 1)), times(4, store(y, 1))), 24 * 24, true},
		{"loads that have but the begin", test(times(8, load(1, x))), 1, true},
		{"6 stores and a load", test(times(6, store(x, 1)), thread(load(1, x))), 7 * 720, true},
		{"6 stores and 2 loads", test(times(6, store(x, 1)), times(2, load(1, x))), 49 * 720, false},
		{"4 stores and 3 loads", test(times(4, store(x, 1)), times(3, load(1, x))), 125 * 24, true},
		{"4 stores and 4 loads", test(times(4, store(x, 1)), times(4, load(1, x))), 625 * 24, false},
		{"4 swaps", test(times(4, swap(1, x, 1))), 256 * 24, true},
		{"4 swaps and a load", test(times(4, swap(1, x, 1)), thread(load(1, x))), 5 * 256 * 24, false},
		{"2 of each", test(times(2, load(1, x), store(x, 1), swap(1, x, 2))), 25 * 16 * 24, true},
		{"a swap for a store", test(times(3, load(1, x), swap(1, x, 2))), 64 * 27 * 6, false},
		{"2 of each, of them an add", test(times(2, load(1, x), store(x, 1)), thread(add(1, x, 2), add(1, x, 2))), 25 * 16 * 24, true},
		{"3 adds and 3 loads", test(times(3, load(1, x), add(1, x, 2))), 64 * 27 * 6, false},
		{"6 loads, 2 stores", test(times(6, load(1, x)), times(2, store(x, 1))), 729 * 2, true},
		{"3 adds and 3 stores of two variables", test(times(3, add(1, x, 1)), times(3, store(y, 1))), 27 * 6 * 6, true},
	} {
		holdCheck(t, r.name, r.test, r.may)
		if r.may != (r.ways <= api.MaxWays) {
			t.Errorf("%s: the row is wrong", r.name)
		}
	}
}
