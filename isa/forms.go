package isa

import "quadrille/api"

// part is what an Op may name beside Imm.
type part int

const (
	rd part = 1 << iota
	rs1
	rs2
	order // Aq and Rl
)

// form is how the parts of instructions stand in their words and their texts.
type form struct {
	names part                      // the parts beside Imm
	imm   func(word bits) uint32    // Imm, of a word's bits
	place func(imm bits) uint32     // where Imm's bits stand in a word
	text  func(i api.Inst) []string // the parts as texts
}

// forms tells each form.
func forms() map[kind]form {
	return map[kind]form{
		formU:      {rd, upperImm, upperImm, upperText},
		formJ:      {rd, jumpImm, jumpPlace, jumpText},
		formI:      {rd | rs1, shortImm, shortPlace, immText},
		formLoad:   {rd | rs1, shortImm, shortPlace, loadText},
		formShift:  {rd | rs1, shiftImm, shiftPlace, immText},
		formB:      {rs1 | rs2, branchImm, branchPlace, branchText},
		formS:      {rs1 | rs2, storeImm, storePlace, storeText},
		formR:      {rd | rs1 | rs2, noImm, noImm, threeText},
		formFence:  {0, fenceImm, fencePlace, fenceText},
		formEcall:  {0, noImm, noImm, noText},
		formA:      {rd | rs1 | rs2 | order, noImm, noImm, amoText},
		formLr:     {rd | rs1 | order, noImm, noImm, lrText},
		formHartid: {rd, noImm, noImm, rdText},
	}
}

// take tells the parts that stand in a word, all but the Op.
func (f form) take(w uint32) api.Inst {
	word := bitsOf(w)
	i := api.Inst{Imm: f.imm(word)}
	if f.names&rd != 0 {
		i.Rd = int(word(11, 7))
	}
	if f.names&rs1 != 0 {
		i.Rs1 = int(word(19, 15))
	}
	if f.names&rs2 != 0 {
		i.Rs2 = int(word(24, 20))
	}
	if f.names&order != 0 {
		i.Aq, i.Rl = word(26, 26) == 1, word(25, 25) == 1
	}
	return i
}

// lay tells a word with the parts, as far as they have room, and nothing else.
func (f form) lay(i api.Inst) uint32 {
	w := f.place(bitsOf(i.Imm))
	if f.names&rd != 0 {
		w |= register(i.Rd) << 7
	}
	if f.names&rs1 != 0 {
		w |= register(i.Rs1) << 15
	}
	if f.names&rs2 != 0 {
		w |= register(i.Rs2) << 20
	}
	if f.names&order != 0 {
		w |= bit(i.Aq)<<26 | bit(i.Rl)<<25
	}
	return w
}
