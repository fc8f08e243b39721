package hart_test

import (
	"math/bits"

	"quadrille/api"
)

// behind is all that is told of a word: its access, the hart behind it, whose cause is why it halted.
type behind struct {
	access api.Access
	hart   api.Hart
}

// halted is what is told of a word at which a hart halts.
func halted(h api.Hart, why api.Cause) behind {
	h.Cause = why
	return behind{hart: h}
}

// wanted tells what the document asks of an instruction: access, causes, and what is behind it, one after the other.
func wanted(h api.Hart, i api.Inst, size int, a api.Answer) behind {
	if i.Op == api.OpEcall {
		return halted(h, api.CauseHalt)
	}
	access := accessOf(h, i)
	if access.Width > 0 {
		if access.Addr%uint32(access.Width) != 0 {
			return halted(h, api.CauseAlign)
		}
		if int64(access.Addr)+int64(access.Width) > int64(size) {
			return halted(h, api.CauseRange)
		}
	}
	place := placeOf(h, i)
	jumps := i.Op >= api.OpJal && i.Op <= api.OpJalr || i.Op >= api.OpBeq && i.Op <= api.OpBgeu && taken(h, i)
	if jumps && place%4 != 0 {
		return halted(h, api.CauseAlign)
	}
	written := writtenOf(h, i, a)
	h.Pc = place
	if i.Op >= api.OpBeq && i.Op <= api.OpBgeu || i.Op >= api.OpSb && i.Op <= api.OpSw || i.Op == api.OpFence {
		return behind{access, h} // these have no Rd
	}
	h.Regs[i.Rd] = written
	h.Regs[0] = 0
	return behind{access, h}
}

// accessOf tells an instruction's access, may it be or not.
func accessOf(h api.Hart, i api.Inst) api.Access {
	addr, value := h.Regs[i.Rs1]+i.Imm, h.Regs[i.Rs2]
	switch i.Op {
	case api.OpLb, api.OpLbu:
		return api.Access{Kind: api.AccLoad, Addr: addr, Width: 1}
	case api.OpLh, api.OpLhu:
		return api.Access{Kind: api.AccLoad, Addr: addr, Width: 2}
	case api.OpLw:
		return api.Access{Kind: api.AccLoad, Addr: addr, Width: 4}
	case api.OpSb:
		return api.Access{Kind: api.AccStore, Addr: addr, Width: 1, Value: value % 256}
	case api.OpSh:
		return api.Access{Kind: api.AccStore, Addr: addr, Width: 2, Value: value % 65536}
	case api.OpSw:
		return api.Access{Kind: api.AccStore, Addr: addr, Width: 4, Value: value}
	case api.OpFence:
		return api.Access{Kind: api.AccFence, Value: i.Imm}
	case api.OpLr:
		return api.Access{Kind: api.AccLr, Addr: h.Regs[i.Rs1], Width: 4, Aq: i.Aq, Rl: i.Rl}
	case api.OpSc:
		return api.Access{Kind: api.AccSc, Addr: h.Regs[i.Rs1], Width: 4, Value: value, Aq: i.Aq, Rl: i.Rl}
	}
	if i.Op >= api.OpAmoswap && i.Op <= api.OpAmomaxu {
		return api.Access{Kind: api.AccAmo, Addr: h.Regs[i.Rs1], Width: 4, Value: value, Op: i.Op, Aq: i.Aq, Rl: i.Rl}
	}
	return api.Access{}
}

// taken tells whether a branch is.
func taken(h api.Hart, i api.Inst) bool {
	a, b := h.Regs[i.Rs1], h.Regs[i.Rs2]
	switch i.Op {
	case api.OpBeq:
		return a == b
	case api.OpBne:
		return a != b
	case api.OpBlt:
		return int32(a) < int32(b)
	case api.OpBge:
		return int32(a) >= int32(b)
	case api.OpBltu:
		return a < b
	}
	return a >= b
}

// placeOf tells where a hart goes on, may it be or not.
func placeOf(h api.Hart, i api.Inst) uint32 {
	switch {
	case i.Op == api.OpJal, i.Op >= api.OpBeq && i.Op <= api.OpBgeu && taken(h, i):
		return h.Pc + i.Imm
	case i.Op == api.OpJalr:
		place := h.Regs[i.Rs1] + i.Imm
		return place - place%2
	}
	return h.Pc + 4
}

// writtenOf tells what Rd is, of what has one.
func writtenOf(h api.Hart, i api.Inst, a api.Answer) uint32 {
	switch i.Op {
	case api.OpLui:
		return i.Imm
	case api.OpAuipc:
		return h.Pc + i.Imm
	case api.OpJal, api.OpJalr:
		return h.Pc + 4
	case api.OpLb:
		return uint32(int8(a.Value))
	case api.OpLh:
		return uint32(int16(a.Value))
	case api.OpLbu:
		return uint32(uint8(a.Value))
	case api.OpLhu:
		return uint32(uint16(a.Value))
	case api.OpSc:
		return one(!a.Ok)
	case api.OpHartid:
		return uint32(h.Id)
	}
	if i.Op == api.OpLw || i.Op == api.OpLr || i.Op >= api.OpAmoswap && i.Op <= api.OpAmomaxu {
		return a.Value
	}
	if i.Op >= api.OpMul && i.Op <= api.OpRemu {
		return product(i.Op, h.Regs[i.Rs1], h.Regs[i.Rs2])
	}
	second := h.Regs[i.Rs2]
	if i.Op >= api.OpAddi && i.Op <= api.OpSrai {
		second = i.Imm
	}
	return reckoned(i.Op, h.Regs[i.Rs1], second)
}

// one is 1 of what is so, else 0.
func one(so bool) uint32 {
	if so {
		return 1
	}
	return 0
}

// reckoned tells what is made of two by what is neither a product nor a quotient.
func reckoned(op api.Op, a, b uint32) uint32 {
	switch op {
	case api.OpAdd, api.OpAddi:
		return a + b
	case api.OpSub:
		return a - b
	case api.OpSll, api.OpSlli:
		return a << (b & 31)
	case api.OpSrl, api.OpSrli:
		return a >> (b & 31)
	case api.OpSra, api.OpSrai:
		return uint32(int32(a) >> (b & 31))
	case api.OpSlt, api.OpSlti:
		return one(int32(a) < int32(b))
	case api.OpSltu, api.OpSltiu:
		return one(a < b)
	case api.OpXor, api.OpXori:
		return a ^ b
	case api.OpOr, api.OpOri:
		return a | b
	}
	return a & b
}

// product tells products, quotients and what is left.
func product(op api.Op, a, b uint32) uint32 {
	upper, lower := bits.Mul32(a, b)
	signs := int64(int32(a)) * int64(int32(b))
	switch op {
	case api.OpMul:
		return lower
	case api.OpMulh:
		return uint32(signs >> 32)
	case api.OpMulhsu:
		return uint32(int64(int32(a)) * int64(b) >> 32)
	case api.OpMulhu:
		return upper
	}
	if b == 0 && (op == api.OpDiv || op == api.OpDivu) {
		return 0xffffffff
	}
	if b == 0 {
		return a
	}
	switch op {
	case api.OpDiv:
		return uint32(int64(int32(a)) / int64(int32(b)))
	case api.OpDivu:
		return a / b
	case api.OpRem:
		return uint32(int64(int32(a)) % int64(int32(b)))
	}
	return a % b
}

// stored tells what an AMO stores.
func stored(op api.Op, was, value uint32) uint32 {
	switch op {
	case api.OpAmoswap:
		return value
	case api.OpAmoadd:
		return was + value
	case api.OpAmoxor:
		return was ^ value
	case api.OpAmoand:
		return was & value
	case api.OpAmoor:
		return was | value
	case api.OpAmomin:
		return uint32(min(int32(was), int32(value)))
	case api.OpAmomax:
		return uint32(max(int32(was), int32(value)))
	case api.OpAmominu:
		return min(was, value)
	}
	return max(was, value)
}
