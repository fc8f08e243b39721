package events

import (
	"slices"

	"quadrille/api"
)

// part is what an event may have beside its Hart and its Kind.
type part int

const (
	partAddr part = 1 << iota
	partValue
	partReadValue
	partAq
	partRl
	partPred
	partSucc
	partReserved
	partAddrs
	partDatas
	partCtrls
)

// partsOf tells the parts that a Kind names: none of what is no Kind.
func partsOf(k api.EventKind) part {
	const access = partAddr | partAq | partRl | partAddrs | partCtrls
	switch k {
	case api.EvLoad:
		return access | partReadValue | partReserved
	case api.EvStore:
		return access | partValue | partReserved | partDatas
	case api.EvBoth:
		return access | partValue | partReadValue | partDatas
	case api.EvFence:
		return partPred | partSucc | partCtrls
	case api.EvBegin:
		return partAddr | partValue
	}
	return 0
}

// filled tells the parts of an event that are not zero.
func filled(e api.Event) part {
	parts := part(0)
	note := func(p part, there bool) {
		if there {
			parts |= p
		}
	}
	note(partAddr, e.Addr != 0)
	note(partValue, e.Value != 0)
	note(partReadValue, e.ReadValue != 0)
	note(partAq, e.Aq)
	note(partRl, e.Rl)
	note(partPred, e.Pred != 0)
	note(partSucc, e.Succ != 0)
	note(partReserved, e.Reserved)
	note(partAddrs, len(e.Addrs) != 0)
	note(partDatas, len(e.Datas) != 0)
	note(partCtrls, len(e.Ctrls) != 0)
	return parts
}

// sameEvent tells whether two are the same, part by part.
func sameEvent(a, b api.Event) bool {
	return a.Hart == b.Hart && a.Kind == b.Kind &&
		a.Addr == b.Addr && a.Value == b.Value && a.ReadValue == b.ReadValue &&
		a.Aq == b.Aq && a.Rl == b.Rl && a.Reserved == b.Reserved &&
		a.Pred == b.Pred && a.Succ == b.Succ &&
		slices.Equal(a.Addrs, b.Addrs) && slices.Equal(a.Datas, b.Datas) && slices.Equal(a.Ctrls, b.Ctrls)
}
