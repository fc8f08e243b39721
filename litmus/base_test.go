package litmus_test

import (
	"math/rand"
	"slices"
	"testing"

	"quadrille/api"
	"quadrille/events"
	"quadrille/litmus"
)

// The variables as steps have them, and how many there are.
const (
	x = iota
	y
	z
	w
	variables
)

const registers = 4

func load(reg, variable int) api.Step {
	return api.Step{Kind: api.StepLoad, Reg: reg, Var: variable}
}

func store(variable int, num uint32) api.Step {
	return api.Step{Kind: api.StepStore, Var: variable, Num: num}
}

func swap(reg, variable int, num uint32) api.Step {
	return api.Step{Kind: api.StepSwap, Reg: reg, Var: variable, Num: num}
}

func add(reg, variable int, num uint32) api.Step {
	return api.Step{Kind: api.StepAdd, Reg: reg, Var: variable, Num: num}
}

func fence(pred, succ int) api.Step {
	return api.Step{Kind: api.StepFence, Pred: pred, Succ: succ}
}

func branch(reg int) api.Step { return api.Step{Kind: api.StepIf, Reg: reg} }

func data(s api.Step, reg int) api.Step { s.Data, s.Num = reg, 0; return s }
func by(s api.Step, reg int) api.Step   { s.By = reg; return s }
func aq(s api.Step) api.Step            { s.Aq = true; return s }
func rl(s api.Step) api.Step            { s.Rl = true; return s }

// thread is its steps; test is its threads.
func thread(l ...api.Step) []api.Step     { return l }
func test(threads ...[]api.Step) api.Test { return api.Test{Threads: threads} }

// times is some steps, again and again.
func times(n int, l ...api.Step) []api.Step { return slices.Repeat(l, n) }

func loads(s api.Step) bool {
	return s.Kind == api.StepLoad || s.Kind == api.StepSwap || s.Kind == api.StepAdd
}

func stores(s api.Step) bool {
	return s.Kind == api.StepStore || s.Kind == api.StepSwap || s.Kind == api.StepAdd
}

func isAccess(s api.Step) bool { return loads(s) || stores(s) }

// copied shares nothing with what it is a copy of.
func copied(t api.Test) api.Test {
	threads := make([][]api.Step, len(t.Threads))
	for i, steps := range t.Threads {
		threads[i] = slices.Clone(steps)
	}
	return api.Test{Threads: threads}
}

// parsed is the test of a text that is one's.
func parsed(t *testing.T, text string) api.Test {
	t.Helper()
	v, line, err := litmus.Parse(text)
	if err != api.OK || line != 0 {
		t.Fatalf("%q: %d, %v", text, line, err)
	}
	return v
}

// all is the executions of a test, as they are told.
func all(v api.Test) []api.Execution { return slices.Collect(litmus.All(v)) }

// sameAll tells whether two lists have the same executions.
func sameAll(a, b []api.Execution) bool { return slices.EqualFunc(a, b, events.Same) }

// sameOutcome tells whether two outcomes are the same.
func sameOutcome(a, b api.Outcome) bool { return slices.Equal(a.Regs, b.Regs) && a.Vars == b.Vars }

// refused are tests that may not be, each for one thing.
func refused() map[string]api.Test {
	return map[string]api.Test{
		"no thread":         {},
		"threads":           test(nil, nil, nil, nil, nil),
		"steps":             test(times(api.MaxOps+1, branch(1))),
		"accesses":          test(times(api.MaxAccess+1, load(1, x))),
		"ways":              test(times(api.MaxAccess, store(x, 1))),
		"a step of no Kind": test(thread(api.Step{})),
		"Reg":               test(thread(load(5, x))),
		"Num with Data":     test(thread(api.Step{Kind: api.StepStore, Num: 1, Data: 1})),
	}
}

// anyStep is an access of one of some variables, or, at times, a step of another Kind.
func anyStep(source *rand.Rand, variables int) api.Step {
	reg := func() int { return 1 + source.Intn(registers) }
	switch source.Intn(8) {
	case 0:
		return fence(1+source.Intn(3), 1+source.Intn(3))
	case 1:
		return branch(reg())
	}
	s := api.Step{Kind: api.StepLoad + api.StepKind(source.Intn(4)), Var: source.Intn(variables)}
	if loads(s) {
		s.Reg = reg()
	}
	if stores(s) {
		s.Num = uint32(source.Intn(3))
	}
	if stores(s) && source.Intn(2) == 0 {
		s.Data, s.Num = reg(), 0
	}
	if source.Intn(5) == 0 {
		s.By = reg()
	}
	s.Aq, s.Rl = source.Intn(8) == 0, source.Intn(8) == 0
	return s
}

// anyTest is one that may be, of at most some accesses.
func anyTest(source *rand.Rand, accesses int) api.Test {
	for {
		threads := make([][]api.Step, 1+source.Intn(api.MaxHarts))
		variables := 1 + source.Intn(variables)
		for left := source.Intn(accesses + 1); left > 0; {
			s := anyStep(source, variables)
			hart := source.Intn(len(threads))
			threads[hart] = append(threads[hart], s)
			if isAccess(s) {
				left--
			}
		}
		if v := test(threads...); litmus.Check(v) == api.OK {
			return v
		}
	}
}
