package alone

import (
	"quadrille/api"
	"quadrille/hart"
	"quadrille/image"
)

// byteBits is how many bits a byte has.
const byteBits = 8

// teller tells an access what it hears, and false, if there is nothing any more.
type teller func(a api.Access) (api.Answer, bool)

// hears tells whether accesses of a kind are told an answer.
func hears(kind api.AccKind) bool {
	switch kind {
	case api.AccLoad, api.AccLr, api.AccSc, api.AccAmo:
		return true
	}
	return false
}

// heard tells what an access hears of an answer: no more bytes than its width, and nothing where it has none.
func heard(access api.Access, a api.Answer) api.Answer {
	if !hears(access.Kind) {
		return api.Answer{}
	}
	a.Value &= 1<<(byteBits*access.Width) - 1
	return a
}

// inTurn tells each access that hears something the next of the answers.
func inTurn(answers []api.Answer) teller {
	next := 0
	return func(access api.Access) (api.Answer, bool) {
		if !hears(access.Kind) {
			return api.Answer{}, true
		}
		if next == len(answers) {
			return api.Answer{}, false
		}
		next++
		return answers[next-1], true
	}
}

// fromMemory tells each access what stands in memory, and writes there what it stores.
func fromMemory(m *image.Image) teller {
	own := memory{Image: m}
	return func(access api.Access) (api.Answer, bool) { return own.do(access), true }
}

// memory is a hart's own, with its reservation of a place, if it has one.
type memory struct {
	*image.Image
	reserved bool
	place    uint32
}

// do does an access. It may be, as the hart halts ahead of others: so nothing is refused here.
func (m *memory) do(a api.Access) api.Answer {
	switch a.Kind {
	case api.AccLoad:
		return m.load(a)
	case api.AccStore:
		m.Write(a.Addr, a.Width, a.Value)
	case api.AccLr:
		m.reserved, m.place = true, a.Addr
		return m.load(a)
	case api.AccSc:
		return m.storeReserved(a)
	case api.AccAmo:
		was := m.load(a)
		value, _ := hart.Amo(a.Op, was.Value, a.Value)
		m.Write(a.Addr, a.Width, value)
		return was
	}
	return api.Answer{}
}

// load tells what stands in memory.
func (m *memory) load(a api.Access) api.Answer {
	value, _ := m.Read(a.Addr, a.Width)
	return api.Answer{Value: value}
}

// storeReserved writes what an sc stores, if its place is the reserved one, and takes the reservation away.
func (m *memory) storeReserved(a api.Access) api.Answer {
	well := m.reserved && m.place == a.Addr
	m.reserved = false
	if well {
		m.Write(a.Addr, a.Width, a.Value)
	}
	return api.Answer{Ok: well}
}
