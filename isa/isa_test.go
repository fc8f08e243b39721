package isa_test

import (
	"math"
	"math/rand"
	"testing"

	"quadrille/api"
	"quadrille/isa"
)

const mostImm = uint32(math.MaxUint32)

// minus is the word of a number below 0.
func minus(n uint32) uint32 { return -n }

// row is a word, the instruction that it is, and its text.
type row struct {
	word uint32
	inst api.Inst
	text string
}

// rows is instructions of each Op, with words as other assemblers lay them.
func rows() []row {
	return append(plainRows(), placeRows()...)
}

// plainRows is those that reckon, jump, or have no parts.
func plainRows() []row {
	return []row{
		{0x000000b7, api.Inst{Op: api.OpLui, Rd: 1}, "lui x1, 0"},
		{0xffffffb7, api.Inst{Op: api.OpLui, Rd: 31, Imm: 0xfffff000}, "lui x31, 1048575"},
		{0x12345537, api.Inst{Op: api.OpLui, Rd: 10, Imm: 0x12345000}, "lui x10, 74565"},
		{0x80000037, api.Inst{Op: api.OpLui, Imm: 0x80000000}, "lui x0, 524288"},
		{0x00001297, api.Inst{Op: api.OpAuipc, Rd: 5, Imm: 0x1000}, "auipc x5, 1"},
		{0x7fffff97, api.Inst{Op: api.OpAuipc, Rd: 31, Imm: 0x7ffff000}, "auipc x31, 524287"},
		{0x0140006f, api.Inst{Op: api.OpJal, Imm: 20}, "jal x0, 20"},
		{0xffdff0ef, api.Inst{Op: api.OpJal, Rd: 1, Imm: minus(4)}, "jal x1, -4"},
		{0x7fffffef, api.Inst{Op: api.OpJal, Rd: 31, Imm: 1<<20 - 2}, "jal x31, 1048574"},
		{0x8000016f, api.Inst{Op: api.OpJal, Rd: 2, Imm: minus(1 << 20)}, "jal x2, -1048576"},
		{0x001001ef, api.Inst{Op: api.OpJal, Rd: 3, Imm: 2048}, "jal x3, 2048"},
		{0x0000126f, api.Inst{Op: api.OpJal, Rd: 4, Imm: 4096}, "jal x4, 4096"},
		{0x00208463, api.Inst{Op: api.OpBeq, Rs1: 1, Rs2: 2, Imm: 8}, "beq x1, x2, 8"},
		{0xfe209ee3, api.Inst{Op: api.OpBne, Rs1: 1, Rs2: 2, Imm: minus(4)}, "bne x1, x2, -4"},
		{0x7e0fcfe3, api.Inst{Op: api.OpBlt, Rs1: 31, Imm: 4094}, "blt x31, x0, 4094"},
		{0x81f05063, api.Inst{Op: api.OpBge, Rs2: 31, Imm: minus(4096)}, "bge x0, x31, -4096"},
		{0x0041e0e3, api.Inst{Op: api.OpBltu, Rs1: 3, Rs2: 4, Imm: 2048}, "bltu x3, x4, 2048"},
		{0xfe62ffe3, api.Inst{Op: api.OpBgeu, Rs1: 5, Rs2: 6, Imm: minus(2)}, "bgeu x5, x6, -2"},
		{0x00000013, api.Inst{Op: api.OpAddi}, "addi x0, x0, 0"},
		{0xffa08093, api.Inst{Op: api.OpAddi, Rd: 1, Rs1: 1, Imm: minus(6)}, "addi x1, x1, -6"},
		{0x7ff22193, api.Inst{Op: api.OpSlti, Rd: 3, Rs1: 4, Imm: 2047}, "slti x3, x4, 2047"},
		{0x80033293, api.Inst{Op: api.OpSltiu, Rd: 5, Rs1: 6, Imm: minus(2048)}, "sltiu x5, x6, -2048"},
		{0xfff44393, api.Inst{Op: api.OpXori, Rd: 7, Rs1: 8, Imm: mostImm}, "xori x7, x8, -1"},
		{0x001f6f93, api.Inst{Op: api.OpOri, Rd: 31, Rs1: 30, Imm: 1}, "ori x31, x30, 1"},
		{0x0ff57493, api.Inst{Op: api.OpAndi, Rd: 9, Rs1: 10, Imm: 255}, "andi x9, x10, 255"},
		{0x00011093, api.Inst{Op: api.OpSlli, Rd: 1, Rs1: 2}, "slli x1, x2, 0"},
		{0x010f9f93, api.Inst{Op: api.OpSlli, Rd: 31, Rs1: 31, Imm: 16}, "slli x31, x31, 16"},
		{0x01f25193, api.Inst{Op: api.OpSrli, Rd: 3, Rs1: 4, Imm: 31}, "srli x3, x4, 31"},
		{0x41f35293, api.Inst{Op: api.OpSrai, Rd: 5, Rs1: 6, Imm: 31}, "srai x5, x6, 31"},
		{0x40145393, api.Inst{Op: api.OpSrai, Rd: 7, Rs1: 8, Imm: 1}, "srai x7, x8, 1"},
		{0x003100b3, api.Inst{Op: api.OpAdd, Rd: 1, Rs1: 2, Rs2: 3}, "add x1, x2, x3"},
		{0x41df0fb3, api.Inst{Op: api.OpSub, Rd: 31, Rs1: 30, Rs2: 29}, "sub x31, x30, x29"},
		{0x00629233, api.Inst{Op: api.OpSll, Rd: 4, Rs1: 5, Rs2: 6}, "sll x4, x5, x6"},
		{0x009423b3, api.Inst{Op: api.OpSlt, Rd: 7, Rs1: 8, Rs2: 9}, "slt x7, x8, x9"},
		{0x00c5b533, api.Inst{Op: api.OpSltu, Rd: 10, Rs1: 11, Rs2: 12}, "sltu x10, x11, x12"},
		{0x00f746b3, api.Inst{Op: api.OpXor, Rd: 13, Rs1: 14, Rs2: 15}, "xor x13, x14, x15"},
		{0x0128d833, api.Inst{Op: api.OpSrl, Rd: 16, Rs1: 17, Rs2: 18}, "srl x16, x17, x18"},
		{0x415a59b3, api.Inst{Op: api.OpSra, Rd: 19, Rs1: 20, Rs2: 21}, "sra x19, x20, x21"},
		{0x018beb33, api.Inst{Op: api.OpOr, Rd: 22, Rs1: 23, Rs2: 24}, "or x22, x23, x24"},
		{0x01bd7cb3, api.Inst{Op: api.OpAnd, Rd: 25, Rs1: 26, Rs2: 27}, "and x25, x26, x27"},
		{0x00000073, api.Inst{Op: api.OpEcall}, "ecall"},
		{0x02208533, api.Inst{Op: api.OpMul, Rd: 10, Rs1: 1, Rs2: 2}, "mul x10, x1, x2"},
		{0x023110b3, api.Inst{Op: api.OpMulh, Rd: 1, Rs1: 2, Rs2: 3}, "mulh x1, x2, x3"},
		{0x0262a233, api.Inst{Op: api.OpMulhsu, Rd: 4, Rs1: 5, Rs2: 6}, "mulhsu x4, x5, x6"},
		{0x029433b3, api.Inst{Op: api.OpMulhu, Rd: 7, Rs1: 8, Rs2: 9}, "mulhu x7, x8, x9"},
		{0x03df4fb3, api.Inst{Op: api.OpDiv, Rd: 31, Rs1: 30, Rs2: 29}, "div x31, x30, x29"},
		{0x02c5d533, api.Inst{Op: api.OpDivu, Rd: 10, Rs1: 11, Rs2: 12}, "divu x10, x11, x12"},
		{0x02f766b3, api.Inst{Op: api.OpRem, Rd: 13, Rs1: 14, Rs2: 15}, "rem x13, x14, x15"},
		{0x0328f833, api.Inst{Op: api.OpRemu, Rd: 16, Rs1: 17, Rs2: 18}, "remu x16, x17, x18"},
		{0xf1402573, api.Inst{Op: api.OpHartid, Rd: 10}, "hartid x10"},
		{0xf1402ff3, api.Inst{Op: api.OpHartid, Rd: 31}, "hartid x31"},
		{0xf1402073, api.Inst{Op: api.OpHartid}, "hartid x0"},
	}
}

// placeRows is those whose texts tell a place, and fences.
func placeRows() []row {
	return []row{
		{0x000100e7, api.Inst{Op: api.OpJalr, Rd: 1, Rs1: 2}, "jalr x1, 0(x2)"},
		{0x7fff0fe7, api.Inst{Op: api.OpJalr, Rd: 31, Rs1: 30, Imm: 2047}, "jalr x31, 2047(x30)"},
		{0x80008067, api.Inst{Op: api.OpJalr, Rs1: 1, Imm: minus(2048)}, "jalr x0, -2048(x1)"},
		{0x00310083, api.Inst{Op: api.OpLb, Rd: 1, Rs1: 2, Imm: 3}, "lb x1, 3(x2)"},
		{0xffe21183, api.Inst{Op: api.OpLh, Rd: 3, Rs1: 4, Imm: minus(2)}, "lh x3, -2(x4)"},
		{0x7fffaf83, api.Inst{Op: api.OpLw, Rd: 31, Rs1: 31, Imm: 2047}, "lw x31, 2047(x31)"},
		{0x80034283, api.Inst{Op: api.OpLbu, Rd: 5, Rs1: 6, Imm: minus(2048)}, "lbu x5, -2048(x6)"},
		{0x00045383, api.Inst{Op: api.OpLhu, Rd: 7, Rs1: 8}, "lhu x7, 0(x8)"},
		{0x001000a3, api.Inst{Op: api.OpSb, Rs2: 1, Imm: 1}, "sb x1, 1(x0)"},
		{0xfe321f23, api.Inst{Op: api.OpSh, Rs1: 4, Rs2: 3, Imm: minus(2)}, "sh x3, -2(x4)"},
		{0x7fff2fa3, api.Inst{Op: api.OpSw, Rs1: 30, Rs2: 31, Imm: 2047}, "sw x31, 2047(x30)"},
		{0x8020a023, api.Inst{Op: api.OpSw, Rs1: 1, Rs2: 2, Imm: minus(2048)}, "sw x2, -2048(x1)"},
		{0x02952023, api.Inst{Op: api.OpSw, Rs1: 10, Rs2: 9, Imm: 32}, "sw x9, 32(x10)"},
		{0x0000000f, api.Inst{Op: api.OpFence}, "fence 0"},
		{0x0330000f, api.Inst{Op: api.OpFence, Imm: 0x33}, "fence 51"},
		{0x0110000f, api.Inst{Op: api.OpFence, Imm: 0x11}, "fence 17"},
		{0x0230000f, api.Inst{Op: api.OpFence, Imm: 0x23}, "fence 35"},
		{0x0810000f, api.Inst{Op: api.OpFence, Imm: 0x81}, "fence 129"},
		{0x0ff0000f, api.Inst{Op: api.OpFence, Imm: 255}, "fence 255"},
		{0x1005a52f, api.Inst{Op: api.OpLr, Rd: 10, Rs1: 11}, "lr x10, (x11)"},
		{0x140120af, api.Inst{Op: api.OpLr, Rd: 1, Rs1: 2, Aq: true}, "lr.aq x1, (x2)"},
		{0x120221af, api.Inst{Op: api.OpLr, Rd: 3, Rs1: 4, Rl: true}, "lr.rl x3, (x4)"},
		{0x160f2faf, api.Inst{Op: api.OpLr, Rd: 31, Rs1: 30, Aq: true, Rl: true}, "lr.aqrl x31, (x30)"},
		{0x1821a0af, api.Inst{Op: api.OpSc, Rd: 1, Rs1: 3, Rs2: 2}, "sc x1, x2, (x3)"},
		{0x1a53222f, api.Inst{Op: api.OpSc, Rd: 4, Rs1: 6, Rs2: 5, Rl: true}, "sc.rl x4, x5, (x6)"},
		{0x0821a0af, api.Inst{Op: api.OpAmoswap, Rd: 1, Rs1: 3, Rs2: 2}, "amoswap x1, x2, (x3)"},
		{0x0deeafaf, api.Inst{Op: api.OpAmoswap, Rd: 31, Rs1: 29, Rs2: 30, Aq: true}, "amoswap.aq x31, x30, (x29)"},
		{0x0053222f, api.Inst{Op: api.OpAmoadd, Rd: 4, Rs1: 6, Rs2: 5}, "amoadd x4, x5, (x6)"},
		{0x0684a3af, api.Inst{Op: api.OpAmoadd, Rd: 7, Rs1: 9, Rs2: 8, Aq: true, Rl: true}, "amoadd.aqrl x7, x8, (x9)"},
		{0x20b6252f, api.Inst{Op: api.OpAmoxor, Rd: 10, Rs1: 12, Rs2: 11}, "amoxor x10, x11, (x12)"},
		{0x62e7a6af, api.Inst{Op: api.OpAmoand, Rd: 13, Rs1: 15, Rs2: 14, Rl: true}, "amoand.rl x13, x14, (x15)"},
		{0x4119282f, api.Inst{Op: api.OpAmoor, Rd: 16, Rs1: 18, Rs2: 17}, "amoor x16, x17, (x18)"},
		{0x814aa9af, api.Inst{Op: api.OpAmomin, Rd: 19, Rs1: 21, Rs2: 20}, "amomin x19, x20, (x21)"},
		{0xa57c2b2f, api.Inst{Op: api.OpAmomax, Rd: 22, Rs1: 24, Rs2: 23, Aq: true}, "amomax.aq x22, x23, (x24)"},
		{0xc1adacaf, api.Inst{Op: api.OpAmominu, Rd: 25, Rs1: 27, Rs2: 26}, "amominu x25, x26, (x27)"},
		{0xe7df2e2f, api.Inst{Op: api.OpAmomaxu, Rd: 28, Rs1: 30, Rs2: 29, Aq: true, Rl: true}, "amomaxu.aqrl x28, x29, (x30)"},
	}
}

func TestP3_1Decode(t *testing.T) {
	for _, r := range rows() {
		if i, ok := isa.Decode(r.word); i != r.inst || !ok {
			t.Errorf("Decode(%08x) is %v, %v, want %v (%s)", r.word, i, ok, r.inst, r.text)
		}
	}
}

func TestP3_1Encode(t *testing.T) {
	for _, r := range rows() {
		if w, err := isa.Encode(r.inst); w != r.word || err != api.OK {
			t.Errorf("Encode(%v) is %08x, %v, want %08x (%s)", r.inst, w, err, r.word, r.text)
		}
	}
}

// TestP3_1AllOps holds the rows against all Ops, so that none is left out.
func TestP3_1AllOps(t *testing.T) {
	seen := map[api.Op]bool{}
	for _, r := range rows() {
		seen[r.inst.Op] = true
	}
	for op := api.OpLui; op <= api.OpHartid; op++ {
		if !seen[op] {
			t.Errorf("no row has Op %d", op)
		}
	}
}

func TestP3_1NoInstruction(t *testing.T) {
	for _, w := range []uint32{
		0, math.MaxUint32, 1, 2, 0x7f, 0x12, 0x10, 1 << 31,
		0x00000012, 0x00000011, 0x00000001, // the lowest two bits are not 11: no words of 32 bits
		0x0000007b, 0x0000005b, 0x00000007, 0x00000027, 0x0000003b, 0x0000001b, 0x00000053, // opcodes that are none
		0x00001067, 0x00007067, // jalr has f3 0 alone
		0x00003003, 0x00006003, 0x00007003, // loads: 3, 6, 7 are none
		0x00003023, 0x00004023, 0x00007023, // stores: 3 to 7 are none
		0x00002063, 0x00003063, // branches: 2, 3 are none
		0x02001013, 0x40001013, 0x80001013, 0x02005013, 0x42005013, 0xfe005013, // shifts: f7 0, 20 of srai
		0x40001033, 0x40002033, 0x40004033, 0x40007033, 0x04000033, 0x42000033, 0x80000033, 0xfe000033, // no such f7
		0x1000000f, 0x8000000f, 0xffff000f, 0x0330008f, 0x03300f8f, 0x0330800f, 0x033f800f, 0x8330000f, // fence: other bits
		0x0330100f, 0x0000100f, 0x0000200f, 0x0000700f, // fence has f3 0 alone
		0x00100073, 0x00200073, 0x000000f3, 0x00008073, 0x80000073, 0x00001073, 0x00004073, 0x30200073, // ecall: other bits
		0xf140a573, 0xf14fa573, 0xf1403573, 0xf1401573, 0xf1400573, 0xf1406573, 0xf1502573, 0xf1302573, 0x71402573, 0x00002573, // hartid: Rs1, f3, what it reads
		0x1015a52f, 0x11f5a52f, 0x1085a52f, // lr with Rs2
		0x1005b52f, 0x1005852f, 0x1005f52f, 0x0821b0af, 0x082180af, // A has f3 2 alone
		0x2821a0af, 0x3821a0af, 0x4821a0af, 0x6821a0af, 0x8821a0af, 0xf821a0af, 0x3021a0af, 0x7021a0af, // bits 31:27 that are none
	} {
		if i, ok := isa.Decode(w); i != (api.Inst{}) || ok {
			t.Errorf("Decode(%08x) is %v, %v, but it is none", w, i, ok)
		}
	}
}

// refused is instructions that may not be.
func refused() []api.Inst {
	out := refusedNumbers()
	for _, op := range []api.Op{0, -1, -13, 60, 61, 1 << 32, 1<<32 + 1, math.MaxInt, math.MinInt, math.MinInt + 1} {
		out = append(out, api.Inst{Op: op}, api.Inst{Op: op, Rd: 1, Rs1: 2, Rs2: 3, Imm: 4, Aq: true, Rl: true})
	}
	for _, n := range []int{-1, -31, -32, 32, 33, 63, 64, 256, 1 << 20, 1 << 32, 1<<32 + 1, math.MaxInt, math.MinInt} {
		for op := api.OpLui; op <= api.OpHartid; op++ { // a register that is none may stand nowhere
			out = append(out, api.Inst{Op: op, Rd: n}, api.Inst{Op: op, Rs1: n}, api.Inst{Op: op, Rs2: n})
		}
	}
	for op := api.OpLui; op < api.OpLr; op++ { // only A names Aq and Rl
		out = append(out, api.Inst{Op: op, Aq: true}, api.Inst{Op: op, Rl: true}, api.Inst{Op: op, Aq: true, Rl: true})
	}
	return append(out, api.Inst{Op: api.OpHartid, Aq: true}, api.Inst{Op: api.OpHartid, Rl: true})
}

// refusedNumbers is instructions with an Imm that may not be, or a part that their Op does not name.
func refusedNumbers() []api.Inst {
	return []api.Inst{
		{Op: api.OpLui, Imm: 1}, {Op: api.OpLui, Imm: 4095}, {Op: api.OpLui, Imm: 4097}, {Op: api.OpLui, Imm: mostImm}, {Op: api.OpAuipc, Imm: 0x800},
		{Op: api.OpLui, Rs1: 1}, {Op: api.OpAuipc, Rs2: 1}, {Op: api.OpLui, Rs1: 31, Imm: 0x1000},
		{Op: api.OpJal, Imm: 1}, {Op: api.OpJal, Imm: mostImm}, {Op: api.OpJal, Imm: 1 << 20}, {Op: api.OpJal, Imm: 1<<20 - 1}, {Op: api.OpJal, Imm: 1<<20 + 2},
		{Op: api.OpJal, Imm: minus(1<<20 + 1)}, {Op: api.OpJal, Imm: minus(1<<20 + 2)}, {Op: api.OpJal, Imm: 1 << 31}, {Op: api.OpJal, Rs1: 1}, {Op: api.OpJal, Rs2: 1},
		{Op: api.OpJalr, Imm: 2048}, {Op: api.OpJalr, Imm: minus(2049)}, {Op: api.OpJalr, Rs2: 1},
		{Op: api.OpLb, Imm: 2048}, {Op: api.OpLw, Imm: minus(2049)}, {Op: api.OpLhu, Imm: 4096}, {Op: api.OpLw, Imm: 1 << 31}, {Op: api.OpLw, Rs2: 31},
		{Op: api.OpAddi, Imm: 2048}, {Op: api.OpAddi, Imm: minus(2049)}, {Op: api.OpAndi, Imm: 4095}, {Op: api.OpSltiu, Imm: 1 << 31}, {Op: api.OpXori, Rs2: 2},
		{Op: api.OpSlli, Imm: 32}, {Op: api.OpSrli, Imm: 33}, {Op: api.OpSrai, Imm: mostImm}, {Op: api.OpSrai, Imm: 0x400}, {Op: api.OpSrli, Imm: 63}, {Op: api.OpSlli, Rs2: 1},
		{Op: api.OpBeq, Imm: 1}, {Op: api.OpBne, Imm: 4095}, {Op: api.OpBlt, Imm: 4096}, {Op: api.OpBge, Imm: 4097}, {Op: api.OpBltu, Imm: minus(4097)},
		{Op: api.OpBgeu, Imm: minus(4098)}, {Op: api.OpBeq, Imm: mostImm}, {Op: api.OpBeq, Imm: 1 << 31}, {Op: api.OpBeq, Rd: 1}, {Op: api.OpBgeu, Rd: 31},
		{Op: api.OpSb, Imm: 2048}, {Op: api.OpSh, Imm: minus(2049)}, {Op: api.OpSw, Imm: 1 << 31}, {Op: api.OpSw, Rd: 1},
		{Op: api.OpAdd, Imm: 1}, {Op: api.OpSra, Imm: 0x400}, {Op: api.OpAnd, Imm: mostImm}, {Op: api.OpMul, Imm: 1}, {Op: api.OpRemu, Imm: 1 << 31},
		{Op: api.OpFence, Imm: 256}, {Op: api.OpFence, Imm: mostImm}, {Op: api.OpFence, Imm: 1 << 31}, {Op: api.OpFence, Rd: 1}, {Op: api.OpFence, Rs1: 1}, {Op: api.OpFence, Rs2: 1},
		{Op: api.OpEcall, Rd: 1}, {Op: api.OpEcall, Rs1: 1}, {Op: api.OpEcall, Rs2: 1}, {Op: api.OpEcall, Imm: 1}, {Op: api.OpEcall, Imm: 1 << 31},
		{Op: api.OpLr, Rs2: 1}, {Op: api.OpLr, Rs2: 31, Aq: true}, {Op: api.OpLr, Imm: 1}, {Op: api.OpSc, Imm: 1}, {Op: api.OpAmoadd, Imm: mostImm}, {Op: api.OpAmomaxu, Imm: 1 << 31},
		{Op: api.OpHartid, Rs1: 1}, {Op: api.OpHartid, Rs2: 1}, {Op: api.OpHartid, Rs2: 20}, {Op: api.OpHartid, Imm: 1}, {Op: api.OpHartid, Imm: 0xf14}, {Op: api.OpHartid, Rd: 5, Rs1: 31},
	}
}

func TestP3_1Refused(t *testing.T) {
	for _, i := range refused() {
		if w, err := isa.Encode(i); w != 0 || err != api.ErrArg {
			t.Errorf("Encode(%v) is %08x, %v", i, w, err)
		}
	}
}

func TestP3_2Refused(t *testing.T) {
	for _, i := range refused() {
		if s, err := isa.Text(i); s != "" || err != api.ErrArg {
			t.Errorf("Text(%v) is %q, %v", i, s, err)
		}
	}
}

func TestP3_2Text(t *testing.T) {
	for _, r := range rows() {
		if s, err := isa.Text(r.inst); s != r.text || err != api.OK {
			t.Errorf("Text(%v) is %q, %v, want %q", r.inst, s, err, r.text)
		}
	}
}

func TestP3_2Name(t *testing.T) {
	for op, s := range shapes() {
		if name, ok := isa.Name(op); name != s.name || !ok {
			t.Errorf("Name(%d) is %q, %v, want %q", op, name, ok, s.name)
		}
	}
	for _, op := range []api.Op{0, -1, -59, 60, 61, 119, 256, 1 << 32, 1<<32 + 1, math.MaxInt, math.MinInt, math.MinInt + 1} {
		if name, ok := isa.Name(op); name != "" || ok {
			t.Errorf("Name(%d) is %q, %v", op, name, ok)
		}
	}
}

// checkWord holds what is told of a word against its shape, and that all of it comes back.
func checkWord(t *testing.T, r *reader, w uint32) {
	t.Helper()
	want, is := r.read(w)
	i, ok := isa.Decode(w)
	if i != want || ok != is {
		t.Fatalf("Decode(%08x) is %v, %v, want %v, %v", w, i, ok, want, is)
	}
	if !is {
		return
	}
	if again, err := isa.Encode(i); again != w || err != api.OK {
		t.Fatalf("Encode of Decode(%08x), %v, is %08x, %v", w, i, again, err)
	}
}

// TestP3_3AllOwnBits goes over all that the bits 6:0, 14:12 and 31:25 can be, with other bits clear, set, and some set.
func TestP3_3AllOwnBits(t *testing.T) {
	r := newReader()
	for _, others := range []uint32{0, 0x01ff8f80, 0x00000f80, 0x000f8000, 0x01f00000, 0x00a50a80, 0x01400000} {
		for own := range uint32(1 << 17) {
			checkWord(t, r, others|own&127|own>>7&7<<12|own>>10<<25)
		}
	}
}

// TestP3_3Neighbours goes over all words that are one or two bits away from an instruction.
func TestP3_3Neighbours(t *testing.T) {
	r := newReader()
	for _, row := range rows() {
		for a := range 32 {
			for b := range 32 {
				checkWord(t, r, row.word^1<<a^1<<b) // the word itself, where a is b
				checkWord(t, r, row.word^1<<a)
			}
		}
	}
}

func TestP3_3AnyWords(t *testing.T) {
	r, source := newReader(), rand.New(rand.NewSource(3))
	for range 100000 {
		w, op := source.Uint32(), 1+source.Intn(59)
		checkWord(t, r, w)
		checkWord(t, r, w&^r.mask[op]|r.value[op]) // the same one with an Op's own bits
	}
}

// checkInst holds what is told of an instruction against its shape, and that all of it comes back.
func checkInst(t *testing.T, s shape, i api.Inst) {
	t.Helper()
	w, err := isa.Encode(i)
	text, errText := isa.Text(i)
	if !s.mayBe(i) {
		if w != 0 || err != api.ErrArg || text != "" || errText != api.ErrArg {
			t.Fatalf("%v may not be, but is %08x, %v, %q, %v", i, w, err, text, errText)
		}
		return
	}
	if err != api.OK || errText != api.OK || text != s.tell(i) {
		t.Fatalf("%v is %08x, %v, %q, %v, want %q", i, w, err, text, errText, s.tell(i))
	}
	if again, ok := isa.Decode(w); again != i || !ok {
		t.Fatalf("Decode of Encode(%v), %08x, is %v, %v", i, w, again, ok)
	}
}

func TestP3_3AllRegisters(t *testing.T) {
	numbers := []int{-1, 0, 1, 2, 15, 16, 31, 32}
	for op, s := range shapes() {
		for _, a := range numbers {
			for _, b := range numbers {
				for _, c := range numbers {
					for order := range 4 {
						checkInst(t, s, api.Inst{Op: op, Rd: a, Rs1: b, Rs2: c, Aq: order&1 != 0, Rl: order&2 != 0})
					}
				}
			}
		}
	}
}

func TestP3_3AllImms(t *testing.T) {
	for op, s := range shapes() {
		for n := uint32(0); n < 4200; n++ {
			checkInst(t, s, api.Inst{Op: op, Imm: n})
			checkInst(t, s, api.Inst{Op: op, Imm: -n})
		}
		for bit := range 32 {
			for near := range uint32(5) {
				checkInst(t, s, api.Inst{Op: op, Imm: 1<<bit + near - 2})
				checkInst(t, s, api.Inst{Op: op, Imm: -(1 << bit) + near - 2})
			}
		}
	}
}

func TestP3_3LongImms(t *testing.T) {
	for _, op := range []api.Op{api.OpLui, api.OpAuipc, api.OpJal} {
		s := shapes()[op]
		for imm := s.imms.least; imm <= s.imms.most; imm += s.imms.step * 61 {
			checkInst(t, s, api.Inst{Op: op, Rd: int(imm>>12) & 31, Imm: uint32(imm)})
		}
	}
}
