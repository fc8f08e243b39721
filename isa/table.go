package isa

import (
	"iter"

	"quadrille/api"
)

// kind is which form an Op has. Loads with jalr stand apart from I, and lr from A, since their texts or parts are others.
type kind int

const (
	formU kind = 1 + iota
	formJ
	formI
	formLoad
	formShift
	formB
	formS
	formR
	formFence
	formEcall
	formA
	formLr
	formHartid
)

// row is what an Op is called, its form, and its own bits: its word where all parts are 0.
type row struct {
	name string
	form kind
	word uint32
}

// From which bit on an Op's own bits stand: f3, f7, the five bits of A, the number of what csrrs reads.
const (
	f3  = 12
	f7  = 25
	f5  = 27
	csr = 20
)

// table tells each Op's row, by its number; that of 0, which is no Op, has no form.
func table() [api.OpHartid + 1]row {
	return [...]row{
		api.OpLui: {"lui", formU, 0x37}, api.OpAuipc: {"auipc", formU, 0x17},
		api.OpJal: {"jal", formJ, 0x6f}, api.OpJalr: {"jalr", formLoad, 0x67},
		api.OpBeq: {"beq", formB, 0x63}, api.OpBne: {"bne", formB, 0x63 | 1<<f3},
		api.OpBlt: {"blt", formB, 0x63 | 4<<f3}, api.OpBge: {"bge", formB, 0x63 | 5<<f3},
		api.OpBltu: {"bltu", formB, 0x63 | 6<<f3}, api.OpBgeu: {"bgeu", formB, 0x63 | 7<<f3},
		api.OpLb: {"lb", formLoad, 0x03}, api.OpLh: {"lh", formLoad, 0x03 | 1<<f3}, api.OpLw: {"lw", formLoad, 0x03 | 2<<f3},
		api.OpLbu: {"lbu", formLoad, 0x03 | 4<<f3}, api.OpLhu: {"lhu", formLoad, 0x03 | 5<<f3},
		api.OpSb: {"sb", formS, 0x23}, api.OpSh: {"sh", formS, 0x23 | 1<<f3}, api.OpSw: {"sw", formS, 0x23 | 2<<f3},
		api.OpAddi: {"addi", formI, 0x13}, api.OpSlti: {"slti", formI, 0x13 | 2<<f3},
		api.OpSltiu: {"sltiu", formI, 0x13 | 3<<f3}, api.OpXori: {"xori", formI, 0x13 | 4<<f3},
		api.OpOri: {"ori", formI, 0x13 | 6<<f3}, api.OpAndi: {"andi", formI, 0x13 | 7<<f3},
		api.OpSlli: {"slli", formShift, 0x13 | 1<<f3},
		api.OpSrli: {"srli", formShift, 0x13 | 5<<f3}, api.OpSrai: {"srai", formShift, 0x13 | 5<<f3 | 0x20<<f7},
		api.OpAdd: {"add", formR, 0x33}, api.OpSub: {"sub", formR, 0x33 | 0x20<<f7},
		api.OpSll: {"sll", formR, 0x33 | 1<<f3}, api.OpSlt: {"slt", formR, 0x33 | 2<<f3},
		api.OpSltu: {"sltu", formR, 0x33 | 3<<f3}, api.OpXor: {"xor", formR, 0x33 | 4<<f3},
		api.OpSrl: {"srl", formR, 0x33 | 5<<f3}, api.OpSra: {"sra", formR, 0x33 | 5<<f3 | 0x20<<f7},
		api.OpOr: {"or", formR, 0x33 | 6<<f3}, api.OpAnd: {"and", formR, 0x33 | 7<<f3},
		api.OpFence: {"fence", formFence, 0x0f}, api.OpEcall: {"ecall", formEcall, 0x73},
		api.OpMul: {"mul", formR, 0x33 | 1<<f7}, api.OpMulh: {"mulh", formR, 0x33 | 1<<f3 | 1<<f7},
		api.OpMulhsu: {"mulhsu", formR, 0x33 | 2<<f3 | 1<<f7}, api.OpMulhu: {"mulhu", formR, 0x33 | 3<<f3 | 1<<f7},
		api.OpDiv: {"div", formR, 0x33 | 4<<f3 | 1<<f7}, api.OpDivu: {"divu", formR, 0x33 | 5<<f3 | 1<<f7},
		api.OpRem: {"rem", formR, 0x33 | 6<<f3 | 1<<f7}, api.OpRemu: {"remu", formR, 0x33 | 7<<f3 | 1<<f7},
		api.OpLr: {"lr", formLr, 0x2f | 2<<f3 | 2<<f5}, api.OpSc: {"sc", formA, 0x2f | 2<<f3 | 3<<f5},
		api.OpAmoswap: {"amoswap", formA, 0x2f | 2<<f3 | 1<<f5}, api.OpAmoadd: {"amoadd", formA, 0x2f | 2<<f3},
		api.OpAmoxor: {"amoxor", formA, 0x2f | 2<<f3 | 4<<f5}, api.OpAmoand: {"amoand", formA, 0x2f | 2<<f3 | 0xc<<f5},
		api.OpAmoor: {"amoor", formA, 0x2f | 2<<f3 | 8<<f5}, api.OpAmomin: {"amomin", formA, 0x2f | 2<<f3 | 0x10<<f5},
		api.OpAmomax: {"amomax", formA, 0x2f | 2<<f3 | 0x14<<f5}, api.OpAmominu: {"amominu", formA, 0x2f | 2<<f3 | 0x18<<f5},
		api.OpAmomaxu: {"amomaxu", formA, 0x2f | 2<<f3 | 0x1c<<f5}, api.OpHartid: {"hartid", formHartid, 0x73 | 2<<f3 | 0xf14<<csr},
	}
}

// rowOf tells an Op's row, if it is one.
func rowOf(op api.Op) (row, bool) {
	if op < api.OpLui || op > api.OpHartid {
		return row{}, false
	}
	return table()[op], true
}

// opcodeOf tells a word's first opcode, which all forms lay in the same bits.
func opcodeOf(w uint32) uint32 { return bitsOf(w)(6, 0) }

// candidates goes over the forms of which an Op has the word's first opcode: going over all of them would take long.
func candidates(w uint32) iter.Seq2[kind, form] {
	return func(yield func(kind, form) bool) {
		all, last := forms(), kind(0)
		for _, r := range table() {
			if r.form == last || opcodeOf(r.word) != opcodeOf(w) {
				continue
			}
			last = r.form
			if !yield(last, all[last]) {
				return
			}
		}
	}
}
