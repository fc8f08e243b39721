package alone_test

import (
	"math"
	"slices"
	"testing"

	"quadrille/alone"
	"quadrille/api"
	"quadrille/hart"
	"quadrille/image"
	"quadrille/isa"
)

const (
	most      = uint32(math.MaxUint32)
	mostSteps = 1 << 20
	nop       = uint32(0x00000013) // addi x0, x0, 0
	ecall     = uint32(0x00000073)
	circle    = uint32(0x0000006f) // jal x0, 0
)

// minus is the word of a number below 0.
func minus(n uint32) uint32 { return -n }

// program lays instructions that may be.
func program(t *testing.T, all ...api.Inst) []uint32 {
	t.Helper()
	var code []uint32
	for _, i := range all {
		w, err := isa.Encode(i)
		if err != api.OK {
			t.Fatalf("%v may not be", i)
		}
		code = append(code, w)
	}
	return code
}

// set makes a register a number from -2048 to 2047.
func set(rd int, imm uint32) api.Inst { return api.Inst{Op: api.OpAddi, Rd: rd, Imm: imm} }

// load reads into a register, at an address that one and a number make.
func load(op api.Op, rd, rs1 int, imm uint32) api.Inst {
	return api.Inst{Op: op, Rd: rd, Rs1: rs1, Imm: imm}
}

// store writes a register's value, at an address that one and a number make.
func store(op api.Op, rs2, rs1 int, imm uint32) api.Inst {
	return api.Inst{Op: op, Rs1: rs1, Rs2: rs2, Imm: imm}
}

// a makes an lr (whose Rs2 is 0), an sc or an AMO.
func a(op api.Op, rd, rs2, rs1 int) api.Inst { return api.Inst{Op: op, Rd: rd, Rs1: rs1, Rs2: rs2} }

// memoryOf makes a memory of so many bytes, numbered from 1 on.
func memoryOf(t *testing.T, size int) *image.Image {
	t.Helper()
	b := make([]byte, size)
	for i := range b {
		b[i] = byte(i + 1)
	}
	m, err := image.Of(b)
	if err != api.OK {
		t.Fatalf("no memory has %d bytes", size)
	}
	return m
}

// ran does a hart by itself that is not refused.
func ran(t *testing.T, code []uint32, m *image.Image, id, steps int) (api.Hart, []api.Commit) {
	t.Helper()
	h, done, err := alone.Run(code, m, id, steps)
	if err != api.OK {
		t.Fatalf("Run(%08x, %d, %d) is refused: %v", code, id, steps, err)
	}
	return h, done
}

func TestP5_1Examples(t *testing.T) {
	m, _ := image.New(16)
	h, done := ran(t, []uint32{0x00500093, 0x00102023, ecall}, m, 0, 10)
	want := []api.Commit{
		{Pc: 0, Word: 0x00500093, Rd: 1, Value: 5},
		{Pc: 4, Word: 0x00102023, Access: api.Access{Kind: api.AccStore, Width: 4, Value: 5}},
		{Pc: 8, Word: ecall, Cause: api.CauseHalt},
	}
	if h != (api.Hart{Pc: 8, Regs: [32]uint32{1: 5}, Cause: api.CauseHalt}) || !slices.Equal(done, want) {
		t.Errorf("the first example: %v, %v", h, done)
	}
	if b := m.Bytes(); !slices.Equal(b, []byte{5, 0, 0, 0, 0, 0, 0, 0, 0, 0, 0, 0, 0, 0, 0, 0}) {
		t.Errorf("the first example leaves %v", b)
	}
	h, done = ran(t, []uint32{0x100020af, 0x1810212f, 0x181021af}, m, 1, 10)
	want = []api.Commit{
		{Pc: 0, Word: 0x100020af, Access: api.Access{Kind: api.AccLr, Width: 4}, Answer: api.Answer{Value: 5}, Rd: 1, Value: 5},
		{Pc: 4, Word: 0x1810212f, Access: api.Access{Kind: api.AccSc, Width: 4, Value: 5}, Answer: api.Answer{Ok: true}, Rd: 2},
		{Pc: 8, Word: 0x181021af, Access: api.Access{Kind: api.AccSc, Width: 4, Value: 5}, Rd: 3, Value: 1},
		{Pc: 12, Cause: api.CauseRange},
	}
	if h != (api.Hart{Id: 1, Pc: 12, Regs: [32]uint32{1: 5, 3: 1}, Cause: api.CauseRange}) || !slices.Equal(done, want) {
		t.Errorf("the second example: %v, %v", h, done)
	}
}

// TestP5_1RunErrors asks for errors, one at once and two: what may not be comes ahead of how many steps.
func TestP5_1RunErrors(t *testing.T) {
	fits, long := make([]uint32, api.MaxCode), make([]uint32, api.MaxCode+1)
	m := memoryOf(t, 16)
	for _, r := range []struct {
		code      []uint32
		m         *image.Image
		id, steps int
		want      api.Errno
	}{
		{fits, m, -1, 1, api.ErrArg}, {fits, m, 4, 1, api.ErrArg}, {fits, m, math.MinInt, 1, api.ErrArg}, {fits, m, math.MaxInt, 1, api.ErrArg},
		{fits, m, 0, 0, api.OK}, {fits, m, 1, 0, api.OK}, {fits, m, 2, 0, api.OK}, {fits, m, 3, 0, api.OK},
		{long, m, 0, 1, api.ErrArg}, {nil, m, 0, 0, api.OK}, {[]uint32{}, m, 0, 0, api.OK},
		{fits, nil, 0, 1, api.ErrArg}, {fits, &image.Image{}, 0, 1, api.ErrArg},
		{fits, memoryOf(t, api.MaxMemory), 0, 0, api.OK},
		{fits, m, 0, -1, api.ErrRange}, {fits, m, 0, math.MinInt, api.ErrRange},
		{fits, m, 0, mostSteps, api.OK}, {fits, m, 0, mostSteps + 1, api.ErrRange}, {fits, m, 0, math.MaxInt, api.ErrRange},
		{fits, m, 4, -1, api.ErrArg}, {long, m, 0, -1, api.ErrArg}, {fits, nil, 0, mostSteps + 1, api.ErrArg}, {fits, &image.Image{}, 0, -1, api.ErrArg},
		{long, nil, -1, -1, api.ErrArg},
	} {
		h, done, err := alone.Run(r.code, r.m, r.id, r.steps)
		if err != r.want || err != api.OK && (h != (api.Hart{}) || done != nil) {
			t.Errorf("Run of %d words, %d bytes, hart %d, %d steps is %v, %v, %v", len(r.code), r.m.Size(), r.id, r.steps, h, done, err)
		}
	}
}

// TestP5_1RefusedLeavesMemory hands in what would write, but for what is refused.
func TestP5_1RefusedLeavesMemory(t *testing.T) {
	m := memoryOf(t, 16)
	code := program(t, store(api.OpSw, 0, 0, 0))
	alone.Run(code, m, 4, 1)
	alone.Run(code, m, 0, -1)
	alone.Run(append(code, make([]uint32, api.MaxCode)...), m, 0, 1)
	if !image.Same(m, memoryOf(t, 16)) {
		t.Errorf("refused, memory is %v", m.Bytes())
	}
}

func TestP5_1ToldErrors(t *testing.T) {
	fits, long := make([]uint32, api.MaxCode), make([]uint32, api.MaxCode+1)
	for _, r := range []struct {
		code            []uint32
		size, id, steps int
		want            api.Errno
	}{
		{fits, 16, -1, 1, api.ErrArg}, {fits, 16, 4, 1, api.ErrArg}, {fits, 16, math.MaxInt, 1, api.ErrArg}, {fits, 16, 3, 0, api.OK},
		{long, 16, 0, 1, api.ErrArg}, {nil, 16, 0, 0, api.OK},
		{fits, -1, 0, 1, api.ErrArg}, {fits, math.MinInt, 0, 1, api.ErrArg}, {fits, 0, 0, 0, api.OK}, {fits, 1, 0, 0, api.OK}, {fits, 63, 0, 0, api.OK},
		{fits, api.MaxMemory, 0, 0, api.OK}, {fits, api.MaxMemory + 1, 0, 1, api.ErrArg}, {fits, math.MaxInt, 0, 1, api.ErrArg},
		{fits, 16, 0, -1, api.ErrRange}, {fits, 16, 0, mostSteps, api.OK}, {fits, 16, 0, mostSteps + 1, api.ErrRange}, {fits, 16, 0, math.MinInt, api.ErrRange},
		{fits, 16, -1, -1, api.ErrArg}, {long, 16, 0, mostSteps + 1, api.ErrArg}, {fits, -1, 0, -1, api.ErrArg}, {fits, api.MaxMemory + 1, 0, math.MaxInt, api.ErrArg},
	} {
		h, done, err := alone.Told(r.code, r.size, r.id, r.steps, api.Answer{})
		if err != r.want || err != api.OK && (h != (api.Hart{}) || done != nil) {
			t.Errorf("Told of %d words, %d bytes, hart %d, %d steps is %v, %v, %v", len(r.code), r.size, r.id, r.steps, h, done, err)
		}
	}
}

func TestP5_1Fetch(t *testing.T) {
	three := []uint32{7, nop, most}
	full, beyond := make([]uint32, api.MaxCode), make([]uint32, api.MaxCode+1)
	full[api.MaxCode-1], beyond[api.MaxCode] = 9, 8
	for _, r := range []struct {
		code  []uint32
		pc    uint32
		want  uint32
		there bool
	}{
		{three, 0, 7, true}, {three, 4, nop, true}, {three, 8, most, true}, {three, 12, 0, false}, {three, 16, 0, false},
		{three, 1, 0, false}, {three, 2, 0, false}, {three, 3, 0, false}, {three, 5, 0, false}, {three, 10, 0, false}, {three, 11, 0, false}, {three, 13, 0, false},
		{three, minus(4), 0, false}, {three, minus(1), 0, false}, {three, minus(2), 0, false}, {three, 1 << 31, 0, false}, {three, 1<<31 + 4, 0, false},
		{nil, 0, 0, false}, {[]uint32{}, 0, 0, false}, {nil, minus(4), 0, false}, {three[:1], 4, 0, false},
		{full, 4 * (api.MaxCode - 1), 9, true}, {full, 4 * api.MaxCode, 0, false}, {beyond, 4 * api.MaxCode, 8, true},
	} {
		if got, there := alone.Fetch(r.code, r.pc); got != r.want || there != r.there {
			t.Errorf("Fetch of %d words at %d is %d, %v", len(r.code), r.pc, got, there)
		}
	}
}

// TestP5_1Halts has harts halt behind two steps, for each cause; the step that halts is a commit, and the last one.
func TestP5_1Halts(t *testing.T) {
	first := []api.Inst{set(1, 6), set(2, minus(4))}
	for _, r := range []struct {
		inst api.Inst
		word uint32 // where inst is none
		want api.Cause
	}{
		{api.Inst{Op: api.OpEcall}, 0, api.CauseHalt},
		{api.Inst{}, 0, api.CauseIllegal}, {api.Inst{}, most, api.CauseIllegal}, {api.Inst{}, 0x00100073, api.CauseIllegal},
		{load(api.OpLw, 3, 1, 0), 0, api.CauseAlign}, {load(api.OpLh, 3, 1, 1), 0, api.CauseAlign}, {store(api.OpSw, 1, 1, 0), 0, api.CauseAlign},
		{a(api.OpLr, 3, 0, 1), 0, api.CauseAlign}, {a(api.OpSc, 3, 1, 1), 0, api.CauseAlign}, {a(api.OpAmoadd, 3, 1, 1), 0, api.CauseAlign},
		{api.Inst{Op: api.OpJal, Rd: 3, Imm: 6}, 0, api.CauseAlign}, {api.Inst{Op: api.OpJalr, Rd: 3, Rs1: 1}, 0, api.CauseAlign}, {api.Inst{Op: api.OpBeq, Imm: 2}, 0, api.CauseAlign},
		{load(api.OpLw, 3, 2, 0), 0, api.CauseRange}, {load(api.OpLb, 3, 0, 16), 0, api.CauseRange}, {store(api.OpSb, 1, 0, 16), 0, api.CauseRange},
		{a(api.OpLr, 3, 0, 2), 0, api.CauseRange}, {a(api.OpSc, 3, 1, 2), 0, api.CauseRange}, {a(api.OpAmoswap, 3, 1, 2), 0, api.CauseRange},
	} {
		code, last := program(t, first...), r.word
		if r.inst.Op != 0 {
			last = program(t, r.inst)[0]
		}
		code = append(code, last, nop, nop)
		m := memoryOf(t, 16)
		h, done := ran(t, code, m, 2, 10)
		want := []api.Commit{{Pc: 0, Word: code[0], Rd: 1, Value: 6}, {Pc: 4, Word: code[1], Rd: 2, Value: minus(4)}, {Pc: 8, Word: last, Cause: r.want}}
		if h != (api.Hart{Id: 2, Pc: 8, Regs: [32]uint32{1: 6, 2: minus(4)}, Cause: r.want}) || !slices.Equal(done, want) || !image.Same(m, memoryOf(t, 16)) {
			t.Errorf("%v, %08x: %v, %v", r.inst, last, h, done)
		}
		other, told, err := alone.Told(code, 16, 2, 10)
		if other != h || !slices.Equal(told, want) || err != api.OK {
			t.Errorf("%v, %08x: told %v, %v, %v", r.inst, last, other, told, err)
		}
	}
}

// TestP5_1Beyond goes on where the code has no word: its Word is 0, and it is a commit.
func TestP5_1Beyond(t *testing.T) {
	full := slices.Repeat([]uint32{nop}, api.MaxCode)
	full[0] = program(t, api.Inst{Op: api.OpJal, Imm: 4 * (api.MaxCode - 1)})[0]
	for _, r := range []struct {
		code []uint32
		pc   uint32
		many int
	}{
		{nil, 0, 1}, {[]uint32{}, 0, 1}, {[]uint32{nop}, 4, 2}, {[]uint32{nop, nop}, 8, 3},
		{full, 4 * api.MaxCode, 3},
		{program(t, api.Inst{Op: api.OpJal, Imm: 8}, set(1, 1)), 8, 2}, {program(t, api.Inst{Op: api.OpJal, Imm: minus(4)}), minus(4), 2},
		{program(t, api.Inst{Op: api.OpJalr, Imm: minus(4)}), minus(4), 2}, {program(t, api.Inst{Op: api.OpBeq, Imm: minus(8)}), minus(8), 2},
		{program(t, set(1, 1), api.Inst{Op: api.OpSlli, Rd: 1, Rs1: 1, Imm: 31}, api.Inst{Op: api.OpJalr, Rs1: 1}), 1 << 31, 4},
	} {
		h, done := ran(t, r.code, memoryOf(t, 16), 0, 100)
		if h.Pc != r.pc || h.Cause != api.CauseRange || len(done) != r.many {
			t.Errorf("%08x: %v, %v", r.code, h, done)
			continue
		}
		if last := done[r.many-1]; last != (api.Commit{Pc: r.pc, Cause: api.CauseRange}) {
			t.Errorf("%08x: the last commit is %v", r.code, last)
		}
		if other, told, err := alone.Told(r.code, 16, 0, 100); other != h || !slices.Equal(told, done) || err != api.OK {
			t.Errorf("%08x: told %v, %v, %v", r.code, other, told, err)
		}
	}
}

// TestP5_1Most ends after so many steps, the halting one among them.
func TestP5_1Most(t *testing.T) {
	code := []uint32{nop, nop, ecall, nop}
	for steps := range 6 {
		want := api.Hart{Id: 3, Pc: uint32(4 * min(steps, 2))}
		if steps > 2 {
			want.Cause = api.CauseHalt
		}
		h, done := ran(t, code, memoryOf(t, 16), 3, steps)
		if h != want || len(done) != min(steps, 3) {
			t.Errorf("%d steps: %v, %v", steps, h, done)
		}
		h, done, err := alone.Told(code, 0, 3, steps)
		if h != want || len(done) != min(steps, 3) || err != api.OK {
			t.Errorf("%d steps, told: %v, %v, %v", steps, h, done, err)
		}
	}
	if h, done := ran(t, nil, memoryOf(t, 16), 1, 0); h != (api.Hart{Id: 1}) || len(done) != 0 {
		t.Errorf("no step: %v, %v", h, done)
	}
	if h, done := ran(t, []uint32{circle}, memoryOf(t, 16), 0, mostSteps); h != (api.Hart{}) || len(done) != mostSteps || done[mostSteps-1] != (api.Commit{Word: circle}) {
		t.Errorf("as many steps as may be: %v, %d commits", h, len(done))
	}
}

// TestP5_1Loads reads by each width at memory's first and last bytes, and just beyond.
func TestP5_1Loads(t *testing.T) {
	for _, r := range []struct {
		op    api.Op
		addr  uint32
		width int
		told  uint32
		value uint32
	}{
		{api.OpLb, 0, 1, 0x81, 0xffffff81}, {api.OpLbu, 0, 1, 0x81, 0x81}, {api.OpLh, 0, 2, 0x8281, 0xffff8281}, {api.OpLhu, 0, 2, 0x8281, 0x8281}, {api.OpLw, 0, 4, 0x84838281, 0x84838281},
		{api.OpLb, 31, 1, 0xa0, 0xffffffa0}, {api.OpLbu, 31, 1, 0xa0, 0xa0}, {api.OpLh, 30, 2, 0xa09f, 0xffffa09f}, {api.OpLhu, 30, 2, 0xa09f, 0xa09f}, {api.OpLw, 28, 4, 0xa09f9e9d, 0xa09f9e9d},
		{api.OpLb, 32, 1, 0, 0}, {api.OpLbu, 32, 1, 0, 0}, {api.OpLh, 32, 2, 0, 0}, {api.OpLhu, 32, 2, 0, 0}, {api.OpLw, 32, 4, 0, 0},
		{api.OpLb, minus(1), 1, 0, 0}, {api.OpLh, minus(2), 2, 0, 0}, {api.OpLw, minus(4), 4, 0, 0},
	} {
		m, _ := image.Of(upFrom(0x81, 32))
		code := program(t, load(r.op, 1, 0, r.addr))
		want := api.Commit{Word: code[0], Access: api.Access{Kind: api.AccLoad, Addr: r.addr, Width: r.width}, Answer: api.Answer{Value: r.told}, Rd: 1, Value: r.value}
		behind := api.Hart{Pc: 4, Regs: [32]uint32{1: r.value}}
		if r.addr >= 32 {
			want, behind = api.Commit{Word: code[0], Cause: api.CauseRange}, api.Hart{Cause: api.CauseRange}
		}
		h, done := ran(t, code, m, 0, 1)
		if h != behind || !slices.Equal(done, []api.Commit{want}) || !slices.Equal(m.Bytes(), upFrom(0x81, 32)) {
			t.Errorf("Op %d at %d: %v, %v, want %v", r.op, r.addr, h, done, want)
		}
	}
}

// upFrom is so many bytes, from one on.
func upFrom(first byte, many int) []byte {
	b := make([]byte, many)
	for i := range b {
		b[i] = first + byte(i)
	}
	return b
}

// TestP5_1Stores writes by each width at memory's first and last bytes, and just beyond.
func TestP5_1Stores(t *testing.T) {
	for _, r := range []struct {
		op    api.Op
		width int
		value uint32
	}{
		{api.OpSb, 1, 0xef}, {api.OpSh, 2, 0xcdef}, {api.OpSw, 4, 0x89abcdef},
	} {
		for _, addr := range []uint32{0, 16, uint32(32 - r.width), 32, uint32(32 + r.width), minus(uint32(r.width))} {
			m := memoryOf(t, 32)
			code := program(t, api.Inst{Op: api.OpLui, Rd: 1, Imm: 0x89abd000}, load(api.OpAddi, 1, 1, minus(0x211)), store(r.op, 1, 0, addr))
			wanted := upFrom(1, 32)
			last := api.Commit{Pc: 8, Word: code[2], Cause: api.CauseRange}
			if addr < 32 {
				last = api.Commit{Pc: 8, Word: code[2], Access: api.Access{Kind: api.AccStore, Addr: addr, Width: r.width, Value: r.value}}
				for i := range r.width {
					wanted[int(addr)+i] = byte(r.value >> (8 * i))
				}
			}
			h, done := ran(t, code, m, 0, 3)
			if h.Cause != last.Cause || len(done) != 3 || done[2] != last || !slices.Equal(m.Bytes(), wanted) {
				t.Errorf("Op %d at %d: %v, %v, memory %v", r.op, addr, h, done, m.Bytes())
			}
		}
	}
}

// TestP5_1Amos does each AMO at memory's first and last word, and just beyond: it is told what stood there, and what it makes of it is written.
func TestP5_1Amos(t *testing.T) {
	for op, stored := range map[api.Op]uint32{
		api.OpAmoswap: minus(3), api.OpAmoadd: 0x04030201 - 3, api.OpAmoxor: 0x04030201 ^ minus(3), api.OpAmoand: 0x04030201 & minus(3), api.OpAmoor: 0x04030201 | minus(3),
		api.OpAmomin: minus(3), api.OpAmomax: 0x04030201, api.OpAmominu: 0x04030201, api.OpAmomaxu: minus(3),
	} {
		for _, addr := range []uint32{0, 28, 32, minus(4)} {
			b := slices.Repeat([]byte{1, 2, 3, 4}, 8)
			m, _ := image.Of(b)
			code := program(t, set(1, minus(3)), set(2, addr), a(op, 3, 1, 2))
			last := api.Commit{Pc: 8, Word: code[2], Cause: api.CauseRange}
			if addr < 32 {
				access := api.Access{Kind: api.AccAmo, Addr: addr, Width: 4, Value: minus(3), Op: op}
				last = api.Commit{Pc: 8, Word: code[2], Access: access, Answer: api.Answer{Value: 0x04030201}, Rd: 3, Value: 0x04030201}
				for i := range 4 {
					b[int(addr)+i] = byte(stored >> (8 * i))
				}
			}
			h, done := ran(t, code, m, 0, 3)
			if h.Cause != last.Cause || len(done) != 3 || done[2] != last || !slices.Equal(m.Bytes(), b) {
				t.Errorf("Op %d at %d: %v, %v, memory %v", op, addr, h, done, m.Bytes())
			}
		}
	}
}

// TestP5_1Reservation has x8 0, x9 8 and x10 99; each sc's Rd is one of x1 to x3, and its failing 1.
func TestP5_1Reservation(t *testing.T) {
	lr, lrOther := a(api.OpLr, 7, 0, 8), a(api.OpLr, 7, 0, 9)
	sc := func(rd int) api.Inst { return a(api.OpSc, rd, 10, 8) }
	scOther := func(rd int) api.Inst { return a(api.OpSc, rd, 10, 9) }
	for _, r := range []struct {
		name         string
		insts        []api.Inst
		failed       [3]uint32
		first, other bool // whether 99 stands at 0, at 8
	}{
		{"an sc of its address", []api.Inst{lr, sc(1)}, [3]uint32{0}, true, false},
		{"none", []api.Inst{sc(1)}, [3]uint32{1}, false, false},
		{"none, of the other address", []api.Inst{scOther(1)}, [3]uint32{1}, false, false},
		{"a second sc", []api.Inst{lr, sc(1), sc(2)}, [3]uint32{0, 1}, true, false},
		{"an sc of another address", []api.Inst{lr, scOther(1)}, [3]uint32{1}, false, false},
		{"which takes it away", []api.Inst{lr, scOther(1), sc(2)}, [3]uint32{1, 1}, false, false},
		{"an lr of another address between", []api.Inst{lr, lrOther, sc(1)}, [3]uint32{1}, false, false},
		{"and an sc of that", []api.Inst{lr, lrOther, scOther(1), sc(2)}, [3]uint32{0, 1}, false, true},
		{"an lr between, and back", []api.Inst{lrOther, lr, sc(1), scOther(2)}, [3]uint32{0, 1}, true, false},
		{"two of the same", []api.Inst{lr, lr, sc(1), sc(2)}, [3]uint32{0, 1}, true, false},
		{"again", []api.Inst{lr, sc(1), sc(2), lr, sc(3)}, [3]uint32{0, 1, 0}, true, false},
		{"a store between", []api.Inst{lr, store(api.OpSw, 0, 8, 0), sc(1)}, [3]uint32{0}, true, false},
		{"a store of a byte between", []api.Inst{lr, store(api.OpSb, 10, 8, 3), sc(1)}, [3]uint32{0}, true, false},
		{"an AMO between", []api.Inst{lr, a(api.OpAmoadd, 7, 10, 8), sc(1)}, [3]uint32{0}, true, false},
		{"loads, jumps and a fence between", []api.Inst{lr, load(api.OpLw, 7, 8, 0), {Op: api.OpJal, Imm: 4}, {Op: api.OpFence, Imm: 255}, sc(1)}, [3]uint32{0}, true, false},
	} {
		m := memoryOf(t, 16)
		code := program(t, append([]api.Inst{set(9, 8), set(10, 99), set(1, 7), set(2, 7), set(3, 7)}, r.insts...)...)
		h, done := ran(t, code, m, 0, len(code))
		first, _ := m.Read(0, 4)
		other, _ := m.Read(8, 4)
		if len(done) != len(code) || (first == 99) != r.first || (other == 99) != r.other || !r.other && other != 0x0c0b0a09 {
			t.Errorf("%s: %v, memory %v", r.name, done, m.Bytes())
		}
		scs := 0
		for _, c := range done {
			if c.Access.Kind != api.AccSc {
				continue
			}
			if c.Answer != (api.Answer{Ok: r.failed[scs] == 0}) || c.Value != r.failed[scs] || h.Regs[c.Rd] != r.failed[scs] {
				t.Errorf("%s: the sc in x%d is %v", r.name, c.Rd, c)
			}
			scs++
		}
	}
}

// TestP5_1ReservationBegins holds that a run begins with none, whatever the one ahead left.
func TestP5_1ReservationBegins(t *testing.T) {
	m := memoryOf(t, 16)
	ran(t, program(t, a(api.OpLr, 1, 0, 0)), m, 0, 1)
	if h, _ := ran(t, program(t, a(api.OpSc, 1, 0, 0)), m, 0, 1); h.Regs[1] != 1 || !image.Same(m, memoryOf(t, 16)) {
		t.Errorf("an sc goes well by the lr of another run: %v", h)
	}
}

// TestP5_1X0 writes x0: no register is told, but the access and the answer are.
func TestP5_1X0(t *testing.T) {
	for _, i := range []api.Inst{
		set(0, 5), {Op: api.OpLui, Imm: 4096}, {Op: api.OpAuipc, Imm: 4096}, {Op: api.OpJal, Imm: 8}, {Op: api.OpJalr, Imm: 8}, {Op: api.OpHartid},
		load(api.OpLw, 0, 0, 4), load(api.OpLb, 0, 0, 1), a(api.OpLr, 0, 0, 0), a(api.OpSc, 0, 0, 0), a(api.OpAmoadd, 0, 0, 0), {Op: api.OpMulhu}, {Op: api.OpDivu},
	} {
		code := program(t, i)
		h, done := ran(t, code, memoryOf(t, 16), 3, 1)
		if h.Regs != [32]uint32{} || len(done) != 1 || done[0].Rd != 0 || done[0].Value != 0 || done[0].Word != code[0] {
			t.Errorf("%v: %v, %v", i, h, done)
		}
		if kind := done[0].Access.Kind; (kind == api.AccLoad || kind == api.AccLr || kind == api.AccAmo) != (done[0].Answer.Value != 0) {
			t.Errorf("%v is told %v", i, done[0].Answer)
		}
	}
}

// TestP5_1Written tells the register that was written, the same value or another one, and none of what has none.
func TestP5_1Written(t *testing.T) {
	h := api.Hart{Id: 2, Pc: 8, Regs: [32]uint32{1: 5, 2: 5, 31: 9}}
	for _, r := range []struct {
		inst  api.Inst
		rd    int
		value uint32
	}{
		{load(api.OpAddi, 1, 1, 0), 1, 5}, {load(api.OpAddi, 31, 1, 1), 31, 6}, {api.Inst{Op: api.OpSub, Rd: 3, Rs1: 1, Rs2: 2}, 3, 0}, {api.Inst{Op: api.OpHartid, Rd: 4}, 4, 2},
		{api.Inst{Op: api.OpLui, Rd: 5, Imm: 0x1000}, 5, 0x1000}, {api.Inst{Op: api.OpAuipc, Rd: 5, Imm: 0x1000}, 5, 0x1008}, {api.Inst{Op: api.OpJal, Rd: 1, Imm: 12}, 1, 12}, {api.Inst{Op: api.OpJalr, Rd: 1, Imm: 12}, 1, 12},
		{api.Inst{Op: api.OpBeq, Rs1: 1, Rs2: 2, Imm: 10 * 4}, 0, 0}, {api.Inst{Op: api.OpBne, Rs1: 1, Rs2: 2, Imm: 2}, 0, 0}, {store(api.OpSb, 1, 0, 7), 0, 0}, {api.Inst{Op: api.OpFence, Imm: 51}, 0, 0},
		{api.Inst{Op: api.OpJal, Rd: 1, Imm: 2}, 0, 0}, {load(api.OpLw, 1, 0, 2), 0, 0}, {load(api.OpLw, 1, 0, 64), 0, 0}, {api.Inst{Op: api.OpEcall}, 0, 0},
	} {
		_, c, err := alone.Commit(h, program(t, r.inst)[0], 64, api.Answer{Value: 3, Ok: true})
		if c.Rd != r.rd || c.Value != r.value || err != api.OK {
			t.Errorf("%v: %v, %v", r.inst, c, err)
		}
	}
}

// TestP5_1CommitRefused hands in harts that may not be, and ones that have halted.
func TestP5_1CommitRefused(t *testing.T) {
	for _, h := range []api.Hart{
		{Id: -1}, {Id: 4}, {Id: math.MinInt}, {Id: math.MaxInt}, {Regs: [32]uint32{1}}, {Cause: -1}, {Cause: 5},
		{Cause: api.CauseHalt}, {Cause: api.CauseIllegal}, {Cause: api.CauseAlign}, {Cause: api.CauseRange},
	} {
		for _, w := range []uint32{nop, ecall, 0, most, 0x00002083} {
			after, c, err := alone.Commit(h, w, 64, api.Answer{Value: 1, Ok: true})
			if after != (api.Hart{}) || c != (api.Commit{}) || err != api.ErrArg {
				t.Errorf("Commit(%v, %08x) is %v, %v, %v", h, w, after, c, err)
			}
		}
	}
}

// TestP5_1CommitAnswers hands in bits beyond the width, and answers where there is none.
func TestP5_1CommitAnswers(t *testing.T) {
	told := api.Answer{Value: 0xfedcba98, Ok: true}
	as := func(value uint32) api.Answer { return api.Answer{Value: value, Ok: true} }
	for _, r := range []struct {
		inst  api.Inst
		want  api.Answer
		rd    int
		value uint32
	}{
		{load(api.OpLb, 1, 0, 3), as(0x98), 1, 0xffffff98}, {load(api.OpLbu, 1, 0, 3), as(0x98), 1, 0x98}, {load(api.OpLh, 1, 0, 2), as(0xba98), 1, 0xffffba98},
		{load(api.OpLhu, 1, 0, 2), as(0xba98), 1, 0xba98}, {load(api.OpLw, 1, 0, 4), told, 1, 0xfedcba98}, {load(api.OpLbu, 0, 0, 3), as(0x98), 0, 0},
		{a(api.OpLr, 1, 0, 0), told, 1, 0xfedcba98}, {a(api.OpAmoand, 1, 2, 0), told, 1, 0xfedcba98}, {a(api.OpSc, 1, 2, 0), told, 1, 0},
		{store(api.OpSb, 1, 0, 3), api.Answer{}, 0, 0}, {store(api.OpSw, 1, 0, 4), api.Answer{}, 0, 0}, {api.Inst{Op: api.OpFence, Imm: 3}, api.Answer{}, 0, 0},
		{set(1, 5), api.Answer{}, 1, 5}, {api.Inst{Op: api.OpJal, Rd: 1, Imm: 8}, api.Answer{}, 1, 4}, {api.Inst{Op: api.OpEcall}, api.Answer{}, 0, 0},
		{load(api.OpLw, 1, 0, 2), api.Answer{}, 0, 0}, {load(api.OpLw, 1, 0, 64), api.Answer{}, 0, 0}, {a(api.OpSc, 1, 2, 3), api.Answer{}, 0, 0},
	} {
		w := program(t, r.inst)[0]
		h := api.Hart{Id: 1, Regs: [32]uint32{2: 7, 3: 65}}
		access, why, _ := hart.Act(h, w, 64)
		want := api.Commit{Word: w, Access: access, Answer: r.want, Rd: r.rd, Value: r.value, Cause: why}
		behind, _ := hart.Done(h, w, 64, told)
		after, c, err := alone.Commit(h, w, 64, told)
		if after != behind || c != want || err != api.OK {
			t.Errorf("%v is %v, %v, %v, want %v", r.inst, after, c, err, want)
		}
	}
	_, c, _ := alone.Commit(api.Hart{}, program(t, a(api.OpSc, 1, 0, 0))[0], 64, api.Answer{})
	if c.Answer != (api.Answer{}) || c.Rd != 1 || c.Value != 1 {
		t.Errorf("an sc that does not go well: %v", c)
	}
}

// TestP5_1CommitSizes hands in sizes that no memory has: layer 4 refuses none of them.
func TestP5_1CommitSizes(t *testing.T) {
	lw := program(t, load(api.OpLw, 1, 0, 0))[0]
	for size, want := range map[int]api.Cause{math.MinInt: api.CauseRange, -1: api.CauseRange, 0: api.CauseRange, 3: api.CauseRange, 4: api.CauseNone, api.MaxMemory + 1: api.CauseNone, math.MaxInt: api.CauseNone} {
		h, c, err := alone.Commit(api.Hart{}, lw, size, api.Answer{Value: 6})
		if h.Cause != want || c.Cause != want || err != api.OK {
			t.Errorf("size %d: %v, %v, %v", size, h, c, err)
		}
	}
	if h, c, err := alone.Commit(api.Hart{Pc: 2}, nop, 0, api.Answer{}); h.Pc != 6 || c.Pc != 2 || err != api.OK { // a word that is handed in is not fetched
		t.Errorf("at 2: %v, %v, %v", h, c, err)
	}
}

// asking is code that asks for four answers: a load's, an lr's, an sc's, an AMO's, with what asks for none between.
func asking(t *testing.T) []uint32 {
	return program(t, set(8, 4), load(api.OpLbu, 1, 0, 1), store(api.OpSw, 1, 0, 0), a(api.OpLr, 2, 0, 8), api.Inst{Op: api.OpFence, Imm: 3},
		a(api.OpSc, 3, 1, 8), a(api.OpAmoadd, 4, 1, 8), set(5, 1), api.Inst{Op: api.OpEcall})
}

// TestP5_1ToldAnswers has just as many answers as are asked, more, and fewer: it ends ahead of what has none.
func TestP5_1ToldAnswers(t *testing.T) {
	code := asking(t)
	answers := []api.Answer{{Value: 0x1ff}, {Value: 70}, {Ok: true}, {Value: 90}, {Value: 1, Ok: true}, {Value: 2}}
	regs := [32]uint32{8: 4}
	ends := []int{1, 3, 5, 6, 9, 9, 9} // how many commits there are, by how many answers
	for many := range len(answers) + 1 {
		switch many {
		case 1:
			regs[1] = 255
		case 2:
			regs[2] = 70
		case 4:
			regs[4], regs[5] = 90, 1
		}
		want := api.Hart{Id: 1, Pc: uint32(4 * min(ends[many], 8)), Regs: regs}
		if many >= 4 {
			want.Cause = api.CauseHalt
		}
		h, done, err := alone.Told(code, 16, 1, 100, answers[:many]...)
		if h != want || len(done) != ends[many] || err != api.OK {
			t.Fatalf("%d answers: %v, %v, %v, want %v", many, h, done, err, want)
		}
		for i, heard := range map[int]api.Answer{1: {Value: 255}, 3: {Value: 70}, 5: {Ok: true}, 6: {Value: 90}} {
			if i < len(done) && done[i].Answer != heard {
				t.Errorf("%d answers: %v is told %v", many, done[i], heard)
			}
		}
	}
}

// TestP5_1ToldSc has an sc go well or not as it is told, with an lr ahead or not.
func TestP5_1ToldSc(t *testing.T) {
	code := program(t, a(api.OpSc, 1, 0, 0), a(api.OpLr, 2, 0, 0), a(api.OpSc, 3, 0, 0))
	h, done, err := alone.Told(code, 16, 0, 3, api.Answer{Ok: true}, api.Answer{Value: 8}, api.Answer{})
	if h != (api.Hart{Pc: 12, Regs: [32]uint32{2: 8, 3: 1}}) || len(done) != 3 || !done[0].Answer.Ok || done[2].Answer.Ok || err != api.OK {
		t.Errorf("told %v, %v, %v", h, done, err)
	}
}

// TestP5_1ToldHalts takes no answer where an access halts, nor where there is none.
func TestP5_1ToldHalts(t *testing.T) {
	for _, i := range []api.Inst{load(api.OpLw, 1, 0, 2), load(api.OpLw, 1, 0, 16), a(api.OpLr, 1, 0, 9), a(api.OpSc, 1, 0, 9), a(api.OpAmoswap, 1, 0, 9)} {
		code := program(t, set(9, 18), i)
		h, done, err := alone.Told(code, 16, 0, 10)
		if h.Pc != 4 || h.Cause == api.CauseNone || len(done) != 2 || done[1] != (api.Commit{Pc: 4, Word: code[1], Cause: h.Cause}) || err != api.OK {
			t.Errorf("%v: %v, %v, %v", i, h, done, err)
		}
	}
	for size, want := range map[int]api.Cause{0: api.CauseRange, 1: api.CauseNone, 3: api.CauseNone, api.MaxMemory: api.CauseNone} {
		h, done, err := alone.Told(program(t, load(api.OpLbu, 1, 0, 0)), size, 0, 1, api.Answer{Value: 5})
		if h.Cause != want || len(done) != 1 || err != api.OK {
			t.Errorf("size %d: %v, %v, %v", size, h, done, err)
		}
	}
	code := program(t, api.Inst{Op: api.OpLui, Rd: 2, Imm: 4096}, load(api.OpLw, 1, 2, minus(4)), load(api.OpLbu, 1, 2, 0))
	h, done, err := alone.Told(code, api.MaxMemory, 0, 3, api.Answer{Value: 5}, api.Answer{Value: 6})
	if h != (api.Hart{Pc: 8, Regs: [32]uint32{1: 5, 2: 4096}, Cause: api.CauseRange}) || len(done) != 3 || err != api.OK {
		t.Errorf("the greatest memory: %v, %v, %v", h, done, err)
	}
}

// TestP5_1Apart holds that what is handed in is not changed, nor shared with answers.
func TestP5_1Apart(t *testing.T) {
	code := append(asking(t), 1, 2, 3)
	kept := slices.Clone(code)
	answers := []api.Answer{{Value: 0x1ff, Ok: true}, {Value: 2}, {Value: 3}, {Value: 4}, {Value: 5}}
	told := slices.Clone(answers)
	first, done, _ := alone.Told(code[:9], 16, 0, 100, answers[:4]...)
	again, other, _ := alone.Told(code[:9], 16, 0, 100, answers[:4]...)
	if !slices.Equal(code, kept) || !slices.Equal(answers, told) {
		t.Errorf("what is handed in is changed: %v, %v", code, answers)
	}
	if first != again || !slices.Equal(done, other) {
		t.Errorf("once it is %v, %v, and then %v, %v", first, done, again, other)
	}
	for i := range done {
		done[i] = api.Commit{Pc: 77}
	}
	for i, c := range other {
		if c.Pc == 77 {
			t.Errorf("commit %d is shared", i)
		}
	}
	ran(t, code[:9], memoryOf(t, 16), 0, 100)
	if !slices.Equal(code, kept) {
		t.Errorf("Run changes its code: %v", code)
	}
}
