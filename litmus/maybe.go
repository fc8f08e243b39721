package litmus

import (
	"iter"

	"quadrille/api"
)

const (
	registers = 4     // of a thread: r1 to r4; 0 is none
	bothSets  = 1 | 2 // what a fence's Pred or Succ has at most: writes and reads
)

// loads tells whether steps of a kind load.
func loads(k api.StepKind) bool {
	return k == api.StepLoad || k == api.StepSwap || k == api.StepAdd
}

// stores tells whether they store.
func stores(k api.StepKind) bool {
	return k == api.StepStore || k == api.StepSwap || k == api.StepAdd
}

// isOneOf tells whether it is one of the numbers from 1 to the last one.
func isOneOf(number, last int) bool { return number >= 1 && number <= last }

// threadsMayBe tells whether a test has as many threads as it may, of as many steps, each of which may be.
func threadsMayBe(t api.Test) bool {
	if !isOneOf(len(t.Threads), api.MaxHarts) {
		return false
	}
	for _, steps := range t.Threads {
		if len(steps) > api.MaxOps {
			return false
		}
		for _, s := range steps {
			if !stepMayBe(s) {
				return false
			}
		}
	}
	return true
}

// stepMayBe tells whether a step has what its Kind names, each as it may be, and nothing else.
func stepMayBe(s api.Step) bool {
	switch s.Kind {
	case api.StepLoad, api.StepStore, api.StepSwap, api.StepAdd:
		return accessMayBe(s)
	case api.StepFence:
		return isOneOf(s.Pred, bothSets) && isOneOf(s.Succ, bothSets) && s == api.Step{Kind: s.Kind, Pred: s.Pred, Succ: s.Succ}
	case api.StepIf:
		return isOneOf(s.Reg, registers) && s == api.Step{Kind: s.Kind, Reg: s.Reg}
	}
	return false
}

// accessMayBe tells it of an access.
func accessMayBe(s api.Step) bool {
	if s.Var < 0 || s.Var >= len(variables) || s.Pred != 0 || s.Succ != 0 {
		return false
	}
	reg := s.Reg == 0
	if loads(s.Kind) {
		reg = isOneOf(s.Reg, registers)
	}
	data := s.Data == 0 || stores(s.Kind) && isOneOf(s.Data, registers)
	num := s.Num == 0 || stores(s.Kind) && s.Data == 0
	by := s.By == 0 || isOneOf(s.By, registers)
	return reg && data && num && by
}

// accesses tells a test's accesses.
func accesses(t api.Test) iter.Seq[api.Step] {
	return func(yield func(api.Step) bool) {
		for _, steps := range t.Threads {
			for _, s := range steps {
				if (loads(s.Kind) || stores(s.Kind)) && !yield(s) {
					return
				}
			}
		}
	}
}

// fewEnough tells whether a test, whose threads may be, has no more accesses and ways than it may.
func fewEnough(t api.Test) bool {
	many := 0
	var storing [len(variables)]int
	for s := range accesses(t) {
		many++
		if stores(s.Kind) {
			storing[s.Var]++
		}
	}
	return many <= api.MaxAccess && ways(t, storing) <= api.MaxWays
}

// ways tells how many ways a test of few accesses has, of whose variables it is known how many of them store there.
func ways(t api.Test, storing [len(variables)]int) int64 {
	all := int64(1) // 32 bits are too few, where all accesses load and store
	for s := range accesses(t) {
		switch {
		case loads(s.Kind) && stores(s.Kind): // the begin comes in for itself
			all *= int64(storing[s.Var])
		case loads(s.Kind):
			all *= int64(storing[s.Var] + 1)
		}
	}
	for _, many := range storing {
		for n := range many {
			all *= int64(n + 1)
		}
	}
	return all
}
