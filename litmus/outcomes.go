package litmus

import (
	"maps"
	"slices"

	"quadrille/api"
	"quadrille/model"
)

// left is an outcome as an array: the registers of each thread, then the variables. Where there is no thread, nothing is left.
type left [api.MaxHarts*registers + len(variables)]uint32

// leftOf tells an outcome as an array.
func leftOf(o api.Outcome) left {
	var l left
	for thread, regs := range o.Regs {
		copy(l[registers*thread:], regs[:])
	}
	copy(l[registers*api.MaxHarts:], o.Vars[:])
	return l
}

// outcome tells what an execution of a plan leaves.
func (p *plan) outcome(x api.Execution) api.Outcome {
	o := api.Outcome{Regs: make([][registers]uint32, len(p.last))}
	for thread, last := range p.last {
		for register := range registers {
			for _, load := range last[register+1] {
				o.Regs[thread][register] = x.Events[load].ReadValue
			}
		}
	}
	for _, order := range x.Order {
		e := x.Events[order[len(order)-1]]
		o.Vars[e.Addr/wordBytes] = e.Value
	}
	return o
}

// outcomes tells what a plan's executions leave that are allowed, each once, rising.
func (p *plan) outcomes() []api.Outcome {
	known := map[left]api.Outcome{}
	for x := range p.all() {
		o := p.outcome(x)
		l := leftOf(o)
		if _, is := known[l]; is {
			continue // asking the model again would be long
		}
		if allowed, _ := model.Allowed(x); allowed {
			known[l] = o
		}
	}
	var told []api.Outcome
	for _, l := range slices.SortedFunc(maps.Keys(known), compare) {
		told = append(told, known[l])
	}
	return told
}

func compare(a, b left) int { return slices.Compare(a[:], b[:]) }
