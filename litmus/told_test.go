package litmus_test

import (
	"slices"

	"quadrille/api"
	"quadrille/events"
)

// retold is a test, and its events as the chapter tells them, without values: the events begin with the EvBegin, and each step that is one has a number.
type retold struct {
	api.Test
	numbers [][]int // of each thread's steps: -1 of a StepIf
	steps   []api.Step
	events  []api.Event
	datas   []int // of each event: where the register is from that it stores or adds, or -1
}

func retell(v api.Test) *retold {
	r := &retold{Test: v}
	for variable := range variables {
		has := func(s api.Step) bool { return isAccess(s) && s.Var == variable }
		if slices.ContainsFunc(slices.Concat(v.Threads...), has) {
			r.append(api.Event{Hart: -1, Kind: api.EvBegin, Addr: uint32(4 * variable)}, api.Step{}, -1)
		}
	}
	kinds := map[api.StepKind]api.EventKind{api.StepLoad: api.EvLoad, api.StepStore: api.EvStore, api.StepSwap: api.EvBoth, api.StepAdd: api.EvBoth, api.StepFence: api.EvFence}
	for hart, steps := range v.Threads {
		r.numbers = append(r.numbers, make([]int, len(steps)))
		for at, s := range steps {
			r.numbers[hart][at] = -1
			if s.Kind == api.StepIf {
				continue
			}
			e := api.Event{Hart: hart, Kind: kinds[s.Kind], Addr: uint32(4 * s.Var), Aq: s.Aq, Rl: s.Rl, Pred: s.Pred, Succ: s.Succ}
			for ahead, branch := range steps[:at] {
				if branch.Kind == api.StepIf {
					e.Ctrls = append(e.Ctrls, r.known(hart, ahead, branch.Reg)...)
				}
			}
			slices.Sort(e.Ctrls)
			e.Ctrls = slices.Compact(e.Ctrls)
			e.Addrs = r.known(hart, at, s.By)
			e.Datas = r.known(hart, at, s.Data)
			r.numbers[hart][at] = r.append(e, s, append(e.Datas, -1)[0])
		}
	}
	return r
}

// append lays an event behind the others, and tells its number.
func (r *retold) append(e api.Event, s api.Step, data int) int {
	r.events, r.steps, r.datas = append(r.events, e), append(r.steps, s), append(r.datas, data)
	return len(r.events) - 1
}

// known tells the event that last loaded a register ahead of a step, if one did; register 0 is none.
func (r *retold) known(hart, at, reg int) []int {
	for at--; at >= 0; at-- {
		if s := r.Threads[hart][at]; loads(s) && s.Reg == reg {
			return []int{r.numbers[hart][at]}
		}
	}
	return nil
}

// filled tells the execution of a From and an Order; false, if some values never come.
func (r *retold) filled(from []int, order [][]int) (api.Execution, bool) {
	values := map[int]uint32{}
	for range r.events { // as many times as a value may go on
		for number, e := range r.events {
			sum, known := r.steps[number].Num, true
			hangsOn := []int{}
			if r.datas[number] >= 0 {
				hangsOn = append(hangsOn, r.datas[number])
			}
			if r.steps[number].Kind == api.StepAdd {
				hangsOn = append(hangsOn, number)
			}
			for _, load := range hangsOn {
				value, there := values[from[load]]
				sum, known = sum+value, known && there
			}
			if known && events.Stores(e) {
				values[number] = sum
			}
		}
	}
	x := api.Execution{Events: slices.Clone(r.events), From: slices.Clone(from)}
	for number := range x.Events {
		e := &x.Events[number]
		value, known := values[number]
		if events.Stores(*e) && !known {
			return api.Execution{}, false
		}
		e.Value = value
		if from[number] >= 0 {
			e.ReadValue = values[from[number]]
		}
	}
	for _, list := range order {
		x.Order = append(x.Order, slices.Clone(list))
	}
	return x, true
}

// executions tells all of them, and how many ways have none: each way is tried, and what comes of them is sorted.
func (r *retold) executions() (l []api.Execution, none int) {
	from := make([]int, len(r.events))
	var order [][]int
	var reading, coming func(at int)
	reading = func(at int) {
		if at == len(from) {
			coming(0)
			return
		}
		from[at] = -1
		if !events.Loads(r.events[at]) {
			reading(at + 1)
			return
		}
		for store := len(from) - 1; store >= 0; store-- {
			if e := r.events[store]; store != at && events.Stores(e) && e.Addr == r.events[at].Addr {
				from[at] = store
				reading(at + 1)
			}
		}
	}
	coming = func(at int) {
		if at < len(r.events) && r.events[at].Kind != api.EvBegin && events.Stores(r.events[at]) {
			i := slices.IndexFunc(order, func(list []int) bool { return r.events[list[0]].Addr == r.events[at].Addr })
			list := order[i]
			for place := range list {
				order[i] = slices.Insert(slices.Clone(list), place+1, at)
				coming(at + 1)
			}
			order[i] = list
			return
		}
		if at < len(r.events) {
			coming(at + 1)
			return
		}
		if x, is := r.filled(from, order); is {
			l = append(l, x)
		} else {
			none++
		}
	}
	for number, e := range r.events {
		if e.Kind == api.EvBegin {
			order = append(order, []int{number})
		}
	}
	reading(0)
	slices.SortFunc(l, compare)
	return l, none
}

// compare compares two executions' From, then their Order, as lists.
func compare(a, b api.Execution) int {
	if c := slices.Compare(a.From, b.From); c != 0 {
		return c
	}
	return slices.CompareFunc(a.Order, b.Order, slices.Compare[[]int])
}

// outcome tells what an execution leaves: each event in its thread's order leaves what it loads, each store in its list's order what it stores.
func (r *retold) outcome(x api.Execution) api.Outcome {
	o := api.Outcome{Regs: make([][4]uint32, len(r.Threads))}
	for number, e := range x.Events {
		if events.Loads(e) {
			o.Regs[e.Hart][r.steps[number].Reg-1] = e.ReadValue
		}
	}
	for _, list := range x.Order {
		for _, store := range list {
			o.Vars[x.Events[store].Addr/4] = x.Events[store].Value
		}
	}
	return o
}

// rising puts outcomes in order, each once: Regs ahead of Vars.
func rising(l []api.Outcome) []api.Outcome {
	byLists := func(a, b api.Outcome) int {
		compare := func(a, b [4]uint32) int { return slices.Compare(a[:], b[:]) }
		if c := slices.CompareFunc(a.Regs, b.Regs, compare); c != 0 {
			return c
		}
		return compare(a.Vars, b.Vars)
	}
	slices.SortFunc(l, byLists)
	return slices.CompactFunc(l, sameOutcome)
}
