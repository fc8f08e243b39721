package hart

import (
	"quadrille/api"
	"quadrille/arith"
)

// amo is the meaning of each AMO: what is stored is made where memory is.
func amo(s *step) {
	s.store(api.AccAmo, wordBytes)
	s.access.Op = s.Op
	s.put(s.told.Value)
}

// amoStores tells for each AMO's Op what is stored, of the value that was loaded and that of Rs2.
func amoStores() map[api.Op]func(was, value uint32) uint32 {
	return map[api.Op]func(was, value uint32) uint32{
		api.OpAmoswap: func(_, value uint32) uint32 { return value },
		api.OpAmoadd:  arith.Add,
		api.OpAmoxor:  func(was, value uint32) uint32 { return was ^ value },
		api.OpAmoand:  func(was, value uint32) uint32 { return was & value },
		api.OpAmoor:   func(was, value uint32) uint32 { return was | value },
		api.OpAmomin:  func(was, value uint32) uint32 { return lesser(was, value, arith.Less) },
		api.OpAmomax:  func(was, value uint32) uint32 { return greater(was, value, arith.Less) },
		api.OpAmominu: func(was, value uint32) uint32 { return lesser(was, value, arith.LessU) },
		api.OpAmomaxu: func(was, value uint32) uint32 { return greater(was, value, arith.LessU) },
	}
}

// lesser tells which of two is below the other one.
func lesser(a, b uint32, below func(a, b uint32) bool) uint32 {
	if below(a, b) {
		return a
	}
	return b
}

// greater tells which of two the other one is below.
func greater(a, b uint32, below func(a, b uint32) bool) uint32 {
	if below(a, b) {
		return b
	}
	return a
}
