package isa_test

import (
	"strconv"
	"strings"

	"quadrille/api"
)

// shape is what the chapter tells of an Op, laid in another way than the program does it: its word's bits from 31 on,
// where d, s, t are those of Rd, Rs1, Rs2, i those of Imm, a and l Aq and Rl; its text, with the same letters.
type shape struct {
	name    string
	pattern string
	text    string
	bits    []int // which bits of Imm the letters i are, from the left
	imms    span
}

// span is which numbers Imm may be.
type span struct{ least, most, step int64 }

func (s span) has(imm int64) bool { return imm >= s.least && imm <= s.most && imm%s.step == 0 }

// down is the numbers from high to low, behind those ahead.
func down(ahead []int, high, low int) []int {
	for b := high; b >= low; b-- {
		ahead = append(ahead, b)
	}
	return ahead
}

// three is a number of f3 in bits.
func three(f int) string { return []string{"000", "001", "010", "011", "100", "101", "110", "111"}[f] }

var (
	none     = span{0, 0, 1}
	upper    = span{0, 1<<32 - 1<<12, 1 << 12}
	jump     = span{-1 << 20, 1<<20 - 2, 2}
	branch   = span{-1 << 12, 1<<12 - 2, 2}
	short    = span{-1 << 11, 1<<11 - 1, 1}
	amount   = span{0, 31, 1}
	ordering = span{0, 255, 1}
)

func shortShape(name, text string, f int, opcode string) shape {
	return shape{name, "iiiiiiiiiiiisssss" + three(f) + "ddddd" + opcode, text, down(nil, 11, 0), short}
}

func shiftShape(name, ahead string, f int) shape {
	return shape{name, ahead + "iiiiisssss" + three(f) + "ddddd0010011", "d, s, i", down(nil, 4, 0), amount}
}

func storeShape(name string, f int) shape {
	return shape{name, "iiiiiiitttttsssss" + three(f) + "iiiii0100011", "t, i(s)", down(nil, 11, 0), short}
}

func branchShape(name string, f int) shape {
	bits := append(down(down([]int{12}, 10, 5), 4, 1), 11)
	return shape{name, "iiiiiiitttttsssss" + three(f) + "iiiii1100011", "s, t, i", bits, branch}
}

func threeShape(name, ahead string, f int) shape {
	return shape{name, ahead + "tttttsssss" + three(f) + "ddddd0110011", "d, s, t", nil, none}
}

func amoShape(name, ahead string) shape {
	return shape{name, ahead + "altttttsssss010ddddd0101111", "d, t, (s)", nil, none}
}

// shapes is each Op's shape, by its number.
func shapes() map[api.Op]shape {
	const load, calc = "0000011", "0010011"
	return map[api.Op]shape{
		1:  {"lui", "iiiiiiiiiiiiiiiiiiiiddddd0110111", "d, u", down(nil, 31, 12), upper},
		2:  {"auipc", "iiiiiiiiiiiiiiiiiiiiddddd0010111", "d, u", down(nil, 31, 12), upper},
		3:  {"jal", "iiiiiiiiiiiiiiiiiiiiddddd1101111", "d, i", down(append(down([]int{20}, 10, 1), 11), 19, 12), jump},
		4:  shortShape("jalr", "d, i(s)", 0, "1100111"),
		5:  branchShape("beq", 0),
		6:  branchShape("bne", 1),
		7:  branchShape("blt", 4),
		8:  branchShape("bge", 5),
		9:  branchShape("bltu", 6),
		10: branchShape("bgeu", 7),
		11: shortShape("lb", "d, i(s)", 0, load),
		12: shortShape("lh", "d, i(s)", 1, load),
		13: shortShape("lw", "d, i(s)", 2, load),
		14: shortShape("lbu", "d, i(s)", 4, load),
		15: shortShape("lhu", "d, i(s)", 5, load),
		16: storeShape("sb", 0),
		17: storeShape("sh", 1),
		18: storeShape("sw", 2),
		19: shortShape("addi", "d, s, i", 0, calc),
		20: shortShape("slti", "d, s, i", 2, calc),
		21: shortShape("sltiu", "d, s, i", 3, calc),
		22: shortShape("xori", "d, s, i", 4, calc),
		23: shortShape("ori", "d, s, i", 6, calc),
		24: shortShape("andi", "d, s, i", 7, calc),
		25: shiftShape("slli", "0000000", 1),
		26: shiftShape("srli", "0000000", 5),
		27: shiftShape("srai", "0100000", 5),
		28: threeShape("add", "0000000", 0),
		29: threeShape("sub", "0100000", 0),
		30: threeShape("sll", "0000000", 1),
		31: threeShape("slt", "0000000", 2),
		32: threeShape("sltu", "0000000", 3),
		33: threeShape("xor", "0000000", 4),
		34: threeShape("srl", "0000000", 5),
		35: threeShape("sra", "0100000", 5),
		36: threeShape("or", "0000000", 6),
		37: threeShape("and", "0000000", 7),
		38: {"fence", "0000iiiiiiii00000000000000001111", "i", down(nil, 7, 0), ordering},
		39: {"ecall", "00000000000000000000000001110011", "", nil, none},
		40: threeShape("mul", "0000001", 0),
		41: threeShape("mulh", "0000001", 1),
		42: threeShape("mulhsu", "0000001", 2),
		43: threeShape("mulhu", "0000001", 3),
		44: threeShape("div", "0000001", 4),
		45: threeShape("divu", "0000001", 5),
		46: threeShape("rem", "0000001", 6),
		47: threeShape("remu", "0000001", 7),
		48: {"lr", "00010al00000sssss010ddddd0101111", "d, (s)", nil, none},
		49: amoShape("sc", "00011"),
		50: amoShape("amoswap", "00001"),
		51: amoShape("amoadd", "00000"),
		52: amoShape("amoxor", "00100"),
		53: amoShape("amoand", "01100"),
		54: amoShape("amoor", "01000"),
		55: amoShape("amomin", "10000"),
		56: amoShape("amomax", "10100"),
		57: amoShape("amominu", "11000"),
		58: amoShape("amomaxu", "11100"),
		59: {"hartid", "11110001010000000010ddddd1110011", "d", nil, none},
	}
}

// own is the bits that stand as digits in a shape's pattern, and which these are.
func (s shape) own() (value, mask uint32) {
	for at, letter := range s.pattern {
		if digit := strings.IndexRune("01", letter); digit >= 0 {
			value |= uint32(digit) << (31 - at)
			mask |= 1 << (31 - at)
		}
	}
	return value, mask
}

// parts is what a word of a shape says.
func (s shape) parts(op api.Op, w uint32) api.Inst {
	i, bits, imm := api.Inst{Op: op}, s.bits, int64(0)
	for at, letter := range s.pattern {
		bit := w >> (31 - at) & 1
		switch letter {
		case 'd':
			i.Rd = i.Rd*2 + int(bit)
		case 's':
			i.Rs1 = i.Rs1*2 + int(bit)
		case 't':
			i.Rs2 = i.Rs2*2 + int(bit)
		case 'a':
			i.Aq = bit == 1
		case 'l':
			i.Rl = bit == 1
		case 'i':
			weight := int64(1) << bits[0]
			if s.imms.least == -weight { // the bit that tells the sign
				weight = -weight
			}
			imm, bits = imm+weight*int64(bit), bits[1:]
		}
	}
	i.Imm = uint32(imm)
	return i
}

// mayBe is whether an instruction of a shape may be.
func (s shape) mayBe(i api.Inst) bool {
	register := func(letter string, n int) bool {
		return n == 0 || n > 0 && n < 32 && strings.Contains(s.pattern, letter)
	}
	imm := int64(i.Imm)
	if s.imms.least < 0 {
		imm = int64(int32(i.Imm))
	}
	return register("d", i.Rd) && register("s", i.Rs1) && register("t", i.Rs2) && s.imms.has(imm) &&
		(!i.Aq && !i.Rl || strings.Contains(s.pattern, "al"))
}

// tell is the text of an instruction of a shape.
func (s shape) tell(i api.Inst) string {
	register := func(n int) string { return "x" + strconv.Itoa(n) }
	parts := strings.NewReplacer("d", register(i.Rd), "s", register(i.Rs1), "t", register(i.Rs2),
		"i", strconv.FormatInt(int64(int32(i.Imm)), 10), "u", strconv.FormatUint(uint64(i.Imm)/4096, 10)).Replace(s.text)
	orders := map[[2]bool]string{{true, false}: ".aq", {false, true}: ".rl", {true, true}: ".aqrl"}
	return strings.TrimSuffix(s.name+orders[[2]bool{i.Aq, i.Rl}]+" "+parts, " ")
}

// reader is shapes with their own bits, made once for many words.
type reader struct {
	shapes      map[api.Op]shape
	value, mask [60]uint32
}

func newReader() *reader {
	r := &reader{shapes: shapes()}
	for op, s := range r.shapes {
		r.value[op], r.mask[op] = s.own()
	}
	return r
}

// read is the instruction that a word is.
func (r *reader) read(w uint32) (api.Inst, bool) {
	for op := api.Op(1); op < 60; op++ {
		if w&r.mask[op] == r.value[op] {
			return r.shapes[op].parts(op, w), true
		}
	}
	return api.Inst{}, false
}
