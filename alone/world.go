package alone

import (
	"iter"

	"quadrille/api"
	"quadrille/hart"
	"quadrille/isa"
)

// mostSteps is how many steps may be asked for.
const mostSteps = 1 << 20

// world is a hart and what it has around it, but its memory, of which it knows the size and what it is told.
type world struct {
	api.Hart
	code []uint32
	size int
	tell teller
}

// begin does a hart from its beginning on, if it may be.
func begin(code []uint32, size, id, most int, tell teller) (api.Hart, []api.Commit, api.Errno) {
	w := world{Hart: api.Hart{Id: id}, code: code, size: size, tell: tell}
	if err := w.refused(most); err != api.OK {
		return api.Hart{}, nil, err
	}
	done := w.goOn(most)
	return w.Hart, done, api.OK
}

// refused tells why a world may not be, or not go on for so many steps.
func (w *world) refused(most int) api.Errno {
	switch {
	case hart.Check(w.Hart) != api.OK, len(w.code) > api.MaxCode, w.size < 0, w.size > api.MaxMemory:
		return api.ErrArg
	case most < 0, most > mostSteps:
		return api.ErrRange
	}
	return api.OK
}

// steps tells the word at the hart's place and whether there is one, again and again: who ranges over it moves the hart on.
func (w *world) steps() iter.Seq2[uint32, bool] {
	return func(yield func(uint32, bool) bool) {
		for yield(Fetch(w.code, w.Pc)) {
		}
	}
}

// goOn does at most so many steps.
func (w *world) goOn(most int) []api.Commit {
	var done []api.Commit
going:
	for word, there := range w.steps() {
		switch {
		case len(done) == most, w.Cause != api.CauseNone:
			break going
		case !there:
			done = append(done, w.stray())
		default:
			c, told := w.step(word)
			if !told {
				break going
			}
			done = append(done, c)
		}
	}
	return done
}

// stray halts the hart where its code has no word.
func (w *world) stray() api.Commit {
	w.Cause = api.CauseRange
	return api.Commit{Pc: w.Pc, Cause: w.Cause}
}

// step does a word; if its access is not told any more, nothing is done.
func (w *world) step(word uint32) (api.Commit, bool) {
	access, _, _ := hart.Act(w.Hart, word, w.size) // never refused: the hart goes on, and layer 4 keeps it one that may be
	a, told := w.tell(access)
	if !told {
		return api.Commit{}, false
	}
	after, done := behind(w.Hart, word, w.size, access, a)
	w.Hart = after
	return done, true
}

// behind tells the hart behind a word whose access is told that answer, and the commit. The hart goes on ahead of it.
func behind(h api.Hart, word uint32, size int, access api.Access, a api.Answer) (api.Hart, api.Commit) {
	a = heard(access, a)
	after, _ := hart.Done(h, word, size, a)
	rd, value := written(word, after)
	return after, api.Commit{Pc: h.Pc, Word: word, Access: access, Answer: a, Rd: rd, Value: value, Cause: after.Cause}
}

// written tells the register that a word wrote and what it is then; of x0, which stays 0, both are 0 as well.
func written(word uint32, after api.Hart) (int, uint32) {
	if after.Cause != api.CauseNone {
		return 0, 0
	}
	i, _ := isa.Decode(word)
	return i.Rd, after.Regs[i.Rd]
}
