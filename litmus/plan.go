package litmus

import (
	"slices"

	"quadrille/api"
	"quadrille/events"
)

const (
	wordBytes = 4  // from a variable's address to the next one's
	noHart    = -1 // whose an EvBegin is
	noStore   = -1 // where what does not load reads from
)

// plan is what a test's executions have in common, and what they choose from. It shares no memory with the test, and stays as it was made, so it may be gone over again.
type plan struct {
	events []api.Event // but for their values
	sums   []sum       // what each of them stores
	from   [][]int     // where each of them may read from, rising
	stores [][]int     // of each address, what stores there, rising
	last   []standing  // of each thread, in the end
}

// sum is a number, and all that some events have loaded, together.
type sum struct {
	number uint32
	loaded []int
}

// standing tells of each register of a thread the event that last loaded it, if one did. What hangs on register 0 hangs on none.
type standing [registers + 1][]int

// planOf plans a test that may be.
func planOf(t api.Test) *plan {
	var p plan
	p.begin(t)
	for hart, steps := range t.Threads {
		p.thread(hart, steps)
	}
	for number, e := range p.events {
		from := []int{noStore}
		if events.Loads(e) {
			from = p.storing(e.Addr, number)
		}
		p.from = append(p.from, from)
		if e.Kind == api.EvBegin {
			p.stores = append(p.stores, p.storing(e.Addr, noStore))
		}
	}
	return &p
}

// begin lays the EvBegin of each variable that an access has.
func (p *plan) begin(t api.Test) {
	var there [len(variables)]bool
	for s := range accesses(t) {
		there[s.Var] = true
	}
	for variable, is := range there {
		if is {
			p.lay(api.Event{Hart: noHart, Kind: api.EvBegin, Addr: addrOf(variable)}, sum{})
		}
	}
}

// thread lays the events of a thread.
func (p *plan) thread(hart int, steps []api.Step) {
	var last standing
	var branches []int
	for _, s := range steps {
		if s.Kind == api.StepIf {
			branches = slices.Concat(branches, last[s.Reg])
			slices.Sort(branches)
			branches = slices.Compact(branches)
			continue
		}
		number := len(p.events)
		stored := sum{s.Num, last[s.Data]}
		if s.Kind == api.StepAdd {
			stored.loaded = append(slices.Clone(stored.loaded), number)
		}
		p.lay(api.Event{
			Hart: hart, Kind: eventKind(s.Kind), Addr: addrOf(s.Var),
			Aq: s.Aq, Rl: s.Rl, Pred: s.Pred, Succ: s.Succ,
			Addrs: last[s.By], Datas: last[s.Data], Ctrls: branches,
		}, stored)
		if loads(s.Kind) {
			last[s.Reg] = []int{number}
		}
	}
	p.last = append(p.last, last)
}

// lay lays an event behind the others.
func (p *plan) lay(e api.Event, stored sum) {
	p.events, p.sums = append(p.events, e), append(p.sums, stored)
}

// storing tells the events that store at an address, but one.
func (p *plan) storing(addr uint32, but int) []int {
	var told []int
	for number, e := range p.events {
		if events.Stores(e) && e.Addr == addr && number != but {
			told = append(told, number)
		}
	}
	return told
}

// eventKind tells what a step is as an event, if it is one.
func eventKind(k api.StepKind) api.EventKind {
	switch {
	case k == api.StepFence:
		return api.EvFence
	case loads(k) && stores(k):
		return api.EvBoth
	case loads(k):
		return api.EvLoad
	}
	return api.EvStore
}

func addrOf(variable int) uint32 { return uint32(wordBytes * variable) }
