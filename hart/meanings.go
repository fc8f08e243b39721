package hart

import (
	"quadrille/api"
	"quadrille/arith"
)

// meaning is what an Op does in a step.
type meaning func(s *step)

// meaningOf tells an Op's meaning. Maps are made anew where they are asked, so each is one of few Ops.
func meaningOf(op api.Op) meaning {
	switch {
	case op >= api.OpJal && op <= api.OpBgeu:
		return jumps()[op]
	case op >= api.OpLb && op <= api.OpSw:
		return accesses()[op]
	case op >= api.OpAddi && op <= api.OpSrai:
		return withImms()[op]
	case op >= api.OpAdd && op <= api.OpAnd:
		return ofRegisters()[op]
	case op >= api.OpMul && op <= api.OpRemu:
		return products()[op]
	case op >= api.OpAmoswap && op <= api.OpAmomaxu:
		return amo
	}
	return others()[op]
}

// jumps is what goes on elsewhere.
func jumps() map[api.Op]meaning {
	return map[api.Op]meaning{
		api.OpJal:  func(s *step) { s.jump(s.Pc + s.Imm); s.put(s.Pc + wordBytes) },
		api.OpJalr: func(s *step) { s.jump((s.first() + s.Imm) &^ 1); s.put(s.Pc + wordBytes) },
		api.OpBeq:  func(s *step) { s.branch(s.first() == s.second()) },
		api.OpBne:  func(s *step) { s.branch(s.first() != s.second()) },
		api.OpBlt:  func(s *step) { s.branch(arith.Less(s.first(), s.second())) },
		api.OpBge:  func(s *step) { s.branch(!arith.Less(s.first(), s.second())) },
		api.OpBltu: func(s *step) { s.branch(arith.LessU(s.first(), s.second())) },
		api.OpBgeu: func(s *step) { s.branch(!arith.LessU(s.first(), s.second())) },
	}
}

// accesses is loads and stores.
func accesses() map[api.Op]meaning {
	return map[api.Op]meaning{
		api.OpLb:  func(s *step) { s.put(arith.Extend(s.load(1), 8)) },
		api.OpLh:  func(s *step) { s.put(arith.Extend(s.load(2), 16)) },
		api.OpLw:  func(s *step) { s.put(s.load(wordBytes)) },
		api.OpLbu: func(s *step) { s.put(s.load(1)) },
		api.OpLhu: func(s *step) { s.put(s.load(2)) },
		api.OpSb:  func(s *step) { s.store(api.AccStore, 1) },
		api.OpSh:  func(s *step) { s.store(api.AccStore, 2) },
		api.OpSw:  func(s *step) { s.store(api.AccStore, wordBytes) },
	}
}

// withImms is what is made of Rs1 and Imm.
func withImms() map[api.Op]meaning {
	return map[api.Op]meaning{
		api.OpAddi:  func(s *step) { s.put(arith.Add(s.first(), s.Imm)) },
		api.OpSlti:  func(s *step) { s.put(bit(arith.Less(s.first(), s.Imm))) },
		api.OpSltiu: func(s *step) { s.put(bit(arith.LessU(s.first(), s.Imm))) },
		api.OpXori:  func(s *step) { s.put(s.first() ^ s.Imm) },
		api.OpOri:   func(s *step) { s.put(s.first() | s.Imm) },
		api.OpAndi:  func(s *step) { s.put(s.first() & s.Imm) },
		api.OpSlli:  func(s *step) { s.put(arith.Shl(s.first(), s.Imm)) },
		api.OpSrli:  func(s *step) { s.put(arith.Shr(s.first(), s.Imm)) },
		api.OpSrai:  func(s *step) { s.put(arith.Sar(s.first(), s.Imm)) },
	}
}

// ofRegisters is what is made of Rs1 and Rs2, but products and quotients.
func ofRegisters() map[api.Op]meaning {
	return map[api.Op]meaning{
		api.OpAdd:  func(s *step) { s.put(arith.Add(s.first(), s.second())) },
		api.OpSub:  func(s *step) { s.put(arith.Sub(s.first(), s.second())) },
		api.OpSll:  func(s *step) { s.put(arith.Shl(s.first(), s.second())) },
		api.OpSlt:  func(s *step) { s.put(bit(arith.Less(s.first(), s.second()))) },
		api.OpSltu: func(s *step) { s.put(bit(arith.LessU(s.first(), s.second()))) },
		api.OpXor:  func(s *step) { s.put(s.first() ^ s.second()) },
		api.OpSrl:  func(s *step) { s.put(arith.Shr(s.first(), s.second())) },
		api.OpSra:  func(s *step) { s.put(arith.Sar(s.first(), s.second())) },
		api.OpOr:   func(s *step) { s.put(s.first() | s.second()) },
		api.OpAnd:  func(s *step) { s.put(s.first() & s.second()) },
	}
}

// products is products, quotients and what is left of them.
func products() map[api.Op]meaning {
	return map[api.Op]meaning{
		api.OpMul:    func(s *step) { s.put(arith.Mul(s.first(), s.second())) },
		api.OpMulh:   func(s *step) { s.put(arith.MulH(s.first(), s.second())) },
		api.OpMulhsu: func(s *step) { s.put(arith.MulHSU(s.first(), s.second())) },
		api.OpMulhu:  func(s *step) { s.put(arith.MulHU(s.first(), s.second())) },
		api.OpDiv:    func(s *step) { s.put(arith.Div(s.first(), s.second())) },
		api.OpDivu:   func(s *step) { s.put(arith.DivU(s.first(), s.second())) },
		api.OpRem:    func(s *step) { s.put(arith.Rem(s.first(), s.second())) },
		api.OpRemu:   func(s *step) { s.put(arith.RemU(s.first(), s.second())) },
	}
}

// others is those that have no like.
func others() map[api.Op]meaning {
	return map[api.Op]meaning{
		api.OpLui:    func(s *step) { s.put(s.Imm) },
		api.OpAuipc:  func(s *step) { s.put(s.Pc + s.Imm) },
		api.OpFence:  func(s *step) { s.access = api.Access{Kind: api.AccFence, Value: s.Imm} },
		api.OpEcall:  func(*step) { panic(api.CauseHalt) },
		api.OpLr:     func(s *step) { s.reach(api.AccLr, wordBytes); s.put(s.told.Value) },
		api.OpSc:     func(s *step) { s.store(api.AccSc, wordBytes); s.put(bit(!s.told.Ok)) },
		api.OpHartid: func(s *step) { s.put(uint32(s.Id)) },
	}
}

// bit tells 1 of what is so, else 0.
func bit(so bool) uint32 {
	if so {
		return 1
	}
	return 0
}
