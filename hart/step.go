package hart

import (
	"quadrille/api"
	"quadrille/isa"
)

// wordBytes is how many bytes a word has.
const wordBytes = 4

// step is an instruction that a hart does, over a memory of so many bytes: the hart and the access, as far as it is done.
type step struct {
	api.Hart
	api.Inst
	size   int
	told   api.Answer
	access api.Access
	next   uint32 // where the hart goes on
}

// do does a word. What may not go on leaves by panic: the hart that was handed in is a copy of its own, so nothing is to be undone.
func do(h api.Hart, word uint32, size int, told api.Answer) (s step, err api.Errno) {
	defer func() {
		switch why := recover().(type) {
		case api.Errno:
			s, err = step{}, why
		case api.Cause:
			s = step{Hart: h}
			s.Cause = why
		}
	}()
	i := fetched(h, word)
	s = step{Hart: h, Inst: i, size: size, told: told, next: h.Pc + wordBytes}
	meaningOf(i.Op)(&s)
	s.Pc = s.next
	return s, api.OK
}

// fetched tells the instruction of a word that a hart is to do.
func fetched(h api.Hart, word uint32) api.Inst {
	if Check(h) != api.OK || h.Cause != api.CauseNone {
		panic(api.ErrArg)
	}
	i, ok := isa.Decode(word)
	if !ok {
		panic(api.CauseIllegal)
	}
	return i
}

// first tells what Rs1 has.
func (s *step) first() uint32 { return s.Regs[s.Rs1] }

// second tells what Rs2 has.
func (s *step) second() uint32 { return s.Regs[s.Rs2] }

// put writes Rd. It comes last of what a meaning does, as Rd may be Rs1 or Rs2, too.
func (s *step) put(n uint32) {
	if s.Rd != 0 {
		s.Regs[s.Rd] = n
	}
}

// jump goes on at a place.
func (s *step) jump(place uint32) {
	if place%wordBytes != 0 {
		panic(api.CauseAlign)
	}
	s.next = place
}

// branch jumps, if it is taken.
func (s *step) branch(taken bool) {
	if taken {
		s.jump(s.Pc + s.Imm)
	}
}

// reach begins an access of bytes at Rs1 and Imm, which is 0 where an Op has none.
func (s *step) reach(kind api.AccKind, width int) {
	addr := s.first() + s.Imm
	if addr%uint32(width) != 0 {
		panic(api.CauseAlign)
	}
	// The end is told by more bits than a word has: behind the last address it is 2^32, not 0.
	if int64(addr)+int64(width) > int64(s.size) {
		panic(api.CauseRange)
	}
	s.access = api.Access{Kind: kind, Addr: addr, Width: width, Aq: s.Aq, Rl: s.Rl}
}

// load tells the value that was loaded.
func (s *step) load(width int) uint32 {
	s.reach(api.AccLoad, width)
	return lowest(s.told.Value, width)
}

// store stores what Rs2 has.
func (s *step) store(kind api.AccKind, width int) {
	s.reach(kind, width)
	s.access.Value = lowest(s.second(), width)
}

// lowest tells a word's lowest bytes.
func lowest(n uint32, bytes int) uint32 { return n & (1<<(8*bytes) - 1) }
