package isa

// bits tells the bits from low to high of the word that it was made of.
type bits func(high, low int) uint32

// bitsOf makes the bits of a word.
func bitsOf(w uint32) bits {
	return func(high, low int) uint32 { return w << (31 - high) >> (31 - high + low) }
}

// register tells the bits of a register's number that have room.
func register(n int) uint32 { return bitsOf(uint32(n))(4, 0) }

// bit tells 1 of what is set, else 0.
func bit(set bool) uint32 {
	if set {
		return 1
	}
	return 0
}

// The Imm of each form, and where its bits stand in a word. An Imm with a sign has it in the word's bit 31:
// that bit is taken less than 0, so that it stands in all bits of Imm from its own on.

func noImm(bits) uint32 { return 0 }

func upperImm(of bits) uint32 { return of(31, 12) << 12 } // its bits stand where they are

func jumpImm(word bits) uint32 {
	return -word(31, 31)<<20 | word(19, 12)<<12 | word(20, 20)<<11 | word(30, 21)<<1
}

func jumpPlace(imm bits) uint32 {
	return imm(20, 20)<<31 | imm(10, 1)<<21 | imm(11, 11)<<20 | imm(19, 12)<<12
}

func shortImm(word bits) uint32 { return -word(31, 31)<<11 | word(30, 20) }

func shortPlace(imm bits) uint32 { return imm(11, 0) << 20 }

func shiftImm(word bits) uint32 { return word(24, 20) }

func shiftPlace(imm bits) uint32 { return imm(4, 0) << 20 }

func branchImm(word bits) uint32 {
	return -word(31, 31)<<12 | word(7, 7)<<11 | word(30, 25)<<5 | word(11, 8)<<1
}

func branchPlace(imm bits) uint32 {
	return imm(12, 12)<<31 | imm(10, 5)<<25 | imm(4, 1)<<8 | imm(11, 11)<<7
}

func storeImm(word bits) uint32 { return -word(31, 31)<<11 | word(30, 25)<<5 | word(11, 7) }

func storePlace(imm bits) uint32 { return imm(11, 5)<<25 | imm(4, 0)<<7 }

func fenceImm(word bits) uint32 { return word(27, 20) }

func fencePlace(imm bits) uint32 { return imm(7, 0) << 20 }
