package alone_test

import (
	"math/rand"
	"slices"
	"testing"

	"quadrille/alone"
	"quadrille/api"
	"quadrille/hart"
	"quadrille/image"
	"quadrille/isa"
)

// retold is a hart over memory as plain bytes, as the document tells it, apart from the package's ways.
type retold struct {
	hart     api.Hart
	memory   []byte
	reserved []uint32 // one address at most
}

// value tells the number that bytes from an address on make.
func (r *retold) value(addr uint32, width int) uint32 {
	n := uint32(0)
	for i := range width {
		n += uint32(r.memory[int(addr)+i]) << (8 * i)
	}
	return n
}

// write makes bytes from an address on those of a number.
func (r *retold) write(addr uint32, width int, n uint32) {
	for i := range width {
		r.memory[int(addr)+i] = byte(n >> (8 * i))
	}
}

// access does an access, and tells its answer.
func (r *retold) access(a api.Access) (told api.Answer) {
	if a.Kind == api.AccLoad || a.Kind == api.AccLr || a.Kind == api.AccAmo {
		told.Value = r.value(a.Addr, a.Width)
	}
	switch a.Kind {
	case api.AccStore:
		r.write(a.Addr, a.Width, a.Value)
	case api.AccLr:
		r.reserved = []uint32{a.Addr}
	case api.AccSc:
		told.Ok = slices.Contains(r.reserved, a.Addr)
		r.reserved = nil
		if told.Ok {
			r.write(a.Addr, a.Width, a.Value)
		}
	case api.AccAmo:
		n, _ := hart.Amo(a.Op, told.Value, a.Value)
		r.write(a.Addr, a.Width, n)
	}
	return told
}

// step does a step of a hart that goes on.
func (r *retold) step(code []uint32) api.Commit {
	h := r.hart
	if int(h.Pc/4) >= len(code) {
		r.hart.Cause = api.CauseRange
		return api.Commit{Pc: h.Pc, Cause: api.CauseRange}
	}
	c := api.Commit{Pc: h.Pc, Word: code[h.Pc/4]}
	c.Access, c.Cause, _ = hart.Act(h, c.Word, len(r.memory))
	if c.Cause == api.CauseNone {
		c.Answer = r.access(c.Access)
		i, _ := isa.Decode(c.Word)
		c.Rd = i.Rd
	}
	r.hart, _ = hart.Done(h, c.Word, len(r.memory), c.Answer)
	c.Value = r.hart.Regs[c.Rd]
	return c
}

// steps does at most so many, and tells their commits.
func (r *retold) steps(code []uint32, many int) (done []api.Commit) {
	for len(done) < many && r.hart.Cause == api.CauseNone {
		done = append(done, r.step(code))
	}
	return done
}

// anyInst is an instruction that may be, of few registers and near addresses.
func anyInst(source *rand.Rand) api.Inst {
	accesses := []api.Op{api.OpLb, api.OpLh, api.OpLw, api.OpLbu, api.OpLhu, api.OpSb, api.OpSh, api.OpSw, api.OpLr, api.OpSc, api.OpLr, api.OpSc}
	for {
		i := api.Inst{Op: 1 + api.Op(source.Intn(int(api.OpHartid))), Rd: source.Intn(5), Rs1: source.Intn(5), Rs2: source.Intn(5), Imm: uint32(4 * source.Intn(16))}
		switch source.Intn(4) {
		case 0:
			i = api.Inst{Op: api.OpAddi, Rd: i.Rd, Imm: i.Imm}
		case 1:
			i.Op = accesses[source.Intn(len(accesses))]
		}
		for _, less := range []func(){func() {}, func() { i.Rs2 = 0 }, func() { i.Imm = 0 }, func() { i.Rd = 0 }, func() { i.Rs1 = 0 }} {
			less()
			if _, err := isa.Encode(i); err == api.OK {
				return i
			}
		}
	}
}

// anyCode is some words, nearly all of them instructions.
func anyCode(t *testing.T, source *rand.Rand) []uint32 {
	var insts []api.Inst
	for range source.Intn(40) {
		insts = append(insts, anyInst(source))
	}
	code := program(t, insts...)
	if len(code) > 0 && source.Intn(8) == 0 {
		code[source.Intn(len(code))] = source.Uint32()
	}
	return code
}

// anyMemory is some bytes.
func anyMemory(source *rand.Rand) []byte {
	b := make([]byte, []int{16, 64, 256}[source.Intn(3)])
	source.Read(b)
	return b
}

// answersOf tells the answers that accesses of commits were told.
func answersOf(done []api.Commit) (answers []api.Answer) {
	for _, c := range done {
		switch c.Access.Kind {
		case api.AccLoad, api.AccLr, api.AccSc, api.AccAmo:
			answers = append(answers, c.Answer)
		}
	}
	return answers
}

// TestP5_1AnyCode holds Run against the document told again.
func TestP5_1AnyCode(t *testing.T) {
	source := rand.New(rand.NewSource(5))
	for range 4000 {
		code, b, steps := anyCode(t, source), anyMemory(source), source.Intn(80)
		m, _ := image.Of(b)
		r := retold{hart: api.Hart{Id: source.Intn(4)}, memory: b}
		h, done := ran(t, code, m, r.hart.Id, steps)
		want := r.steps(code, steps)
		if h != r.hart || !slices.Equal(done, want) || !slices.Equal(m.Bytes(), r.memory) {
			t.Fatalf("%08x: %v, %v, want %v, %v", code, h, done, r.hart, want)
		}
	}
}

// TestP5_2Told tells a hart the answers of Run's commits, with more of them, and with one fewer.
func TestP5_2Told(t *testing.T) {
	source := rand.New(rand.NewSource(52))
	fewer := 0
	for range 4000 {
		code, b, steps, id := anyCode(t, source), anyMemory(source), source.Intn(80), source.Intn(4)
		m, _ := image.Of(b)
		h, done := ran(t, code, m, id, steps)
		answers := answersOf(done)
		for _, behind := range [][]api.Answer{nil, {{Value: 9, Ok: true}}} {
			other, told, err := alone.Told(code, len(b), id, steps, append(slices.Clone(answers), behind...)...)
			if other != h || !slices.Equal(told, done) || err != api.OK {
				t.Fatalf("%08x: told %v, %v, %v, want %v, %v", code, other, told, err, h, done)
			}
		}
		if len(answers) == 0 {
			continue
		}
		fewer++
		last := len(done) - 1
		for len(answersOf(done[last:])) == 0 {
			last--
		}
		other, told, err := alone.Told(code, len(b), id, steps, answers[:len(answers)-1]...)
		if !slices.Equal(told, done[:last]) || other.Pc != done[last].Pc || other.Cause != api.CauseNone || err != api.OK {
			t.Fatalf("%08x: told one fewer %v, %v, %v", code, other, told, err)
		}
	}
	if fewer < 1000 {
		t.Errorf("only %d programs are told anything", fewer)
	}
}

// TestP5_2Parts does a part by Run, and the rest by steps on the hart and the memory that it left.
func TestP5_2Parts(t *testing.T) {
	source := rand.New(rand.NewSource(25))
	for range 4000 {
		code, b, id := anyCode(t, source), anyMemory(source), source.Intn(4)
		whole, _ := image.Of(b)
		h, done := ran(t, code, whole, id, 60)
		steps := source.Intn(len(done) + 1)
		if standsBetween(done[:steps]) {
			continue
		}
		part, _ := image.Of(b)
		first, commits := ran(t, code, part, id, steps)
		r := retold{hart: first, memory: part.Bytes()}
		commits = append(commits, r.steps(code, 60-steps)...)
		if r.hart != h || !slices.Equal(commits, done) || !slices.Equal(r.memory, whole.Bytes()) {
			t.Fatalf("%08x: in two parts %v, %v, want %v, %v", code, r.hart, commits, h, done)
		}
	}
}

// standsBetween tells whether commits leave a reservation.
func standsBetween(done []api.Commit) bool {
	stands := false
	for _, c := range done {
		stands = c.Access.Kind == api.AccLr || stands && c.Access.Kind != api.AccSc
	}
	return stands
}

// TestP5_2PartsBegun does the second part by Run as well: its code begins with what makes the registers what the first left.
func TestP5_2PartsBegun(t *testing.T) {
	first := []api.Inst{set(1, 12), set(2, 34), store(api.OpSw, 2, 1, 0), a(api.OpLr, 3, 0, 1), a(api.OpSc, 4, 1, 1)}
	second := []api.Inst{load(api.OpLw, 5, 1, 0), a(api.OpAmoadd, 6, 2, 1), a(api.OpSc, 7, 2, 1), store(api.OpSb, 6, 0, 3), {Op: api.OpEcall}}
	again := []api.Inst{set(1, 12), set(2, 34), set(3, 34), set(4, 0)}
	whole, parts := memoryOf(t, 16), memoryOf(t, 16)
	h, done := ran(t, program(t, append(slices.Clone(first), second...)...), whole, 0, 100)
	ran(t, program(t, first...), parts, 0, len(first))
	other, rest := ran(t, program(t, append(slices.Clone(again), second...)...), parts, 0, 100)
	if other.Regs != h.Regs || other.Cause != h.Cause || !image.Same(whole, parts) || len(rest) != len(again)+len(second) {
		t.Errorf("in two parts %v, %v, memory %v, want %v, %v", other, rest, parts.Bytes(), h, whole.Bytes())
	}
	for i := range second {
		want, got := done[len(first)+i], rest[len(again)+i]
		want.Pc, got.Pc = 0, 0
		if got != want {
			t.Errorf("in two parts %v, want %v", got, want)
		}
	}
}
