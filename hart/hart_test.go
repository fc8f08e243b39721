package hart_test

import (
	"math"
	"math/rand"
	"testing"

	"quadrille/api"
	"quadrille/hart"
	"quadrille/isa"
)

const (
	top  = uint32(1) << 31
	most = uint32(math.MaxUint32)
	nop  = uint32(0x00000013) // addi x0, x0, 0
)

// minus is the word of a number below 0.
func minus(n uint32) uint32 { return -n }

// edges is words at which meanings may go wrong.
func edges() []uint32 {
	return []uint32{0, 1, 2, 5, 31, 32, 33, 255, 0x12345678, top - 1, top, top + 1, minus(31), minus(2), most}
}

// word lays an instruction that may be.
func word(t *testing.T, i api.Inst) uint32 {
	t.Helper()
	w, err := isa.Encode(i)
	if err != api.OK {
		t.Fatalf("%v may not be", i)
	}
	return w
}

// pair is a hart whose x1 and x2 have these.
func pair(first, second uint32) api.Hart {
	return api.Hart{Regs: [32]uint32{1: first, 2: second}}
}

// check holds Act and Done against what is wanted.
func check(t *testing.T, h api.Hart, w uint32, size int, a api.Answer, want behind) {
	t.Helper()
	access, why, err := hart.Act(h, w, size)
	if access != want.access || why != want.hart.Cause || err != api.OK {
		t.Fatalf("Act(%v, %08x, %d) is %v, %v, %v, want %v, %v", h, w, size, access, why, err, want.access, want.hart.Cause)
	}
	after, err := hart.Done(h, w, size, a)
	if after != want.hart || err != api.OK {
		t.Fatalf("Done(%v, %08x, %d, %v) is %v, %v, want %v", h, w, size, a, after, err, want.hart)
	}
}

func TestP4_1Examples(t *testing.T) {
	check(t, api.Hart{Regs: [32]uint32{1: 5}}, 0xffa08093, 64, api.Answer{}, behind{hart: api.Hart{Pc: 4, Regs: [32]uint32{1: 4294967295}}})
	check(t, api.Hart{Regs: [32]uint32{2: 16}}, 0x00310083, 64, api.Answer{Value: 255},
		behind{api.Access{Kind: api.AccLoad, Addr: 19, Width: 1}, api.Hart{Pc: 4, Regs: [32]uint32{1: 4294967295, 2: 16}}})
	check(t, api.Hart{Pc: 8}, 0x002000e7, 64, api.Answer{}, behind{hart: api.Hart{Pc: 8, Cause: api.CauseAlign}})
	for op, want := range map[api.Op]uint32{api.OpAmomin: most, api.OpAmominu: 1} {
		if got, err := hart.Amo(op, 1, most); got != want || err != api.OK {
			t.Errorf("Amo(%d, 1, -1) is %d, %v, want %d", op, got, err, want)
		}
	}
}

// wrongHarts is harts that may not be, each for one reason.
func wrongHarts() []api.Hart {
	out := []api.Hart{{Regs: [32]uint32{1}}, {Regs: [32]uint32{most}}, {Regs: [32]uint32{top}, Cause: api.CauseHalt}}
	for _, id := range []int{-1, 4, 5, math.MinInt, math.MaxInt, 1 << 32} {
		out = append(out, api.Hart{Id: id}, api.Hart{Id: id, Cause: api.CauseRange})
	}
	for _, why := range []api.Cause{-1, 5, math.MinInt, math.MaxInt, 1 << 32} {
		out = append(out, api.Hart{Cause: why})
	}
	return out
}

// haltedHarts is harts that have halted, of each cause.
func haltedHarts() []api.Hart {
	return []api.Hart{{Cause: api.CauseHalt}, {Id: 3, Pc: 8, Cause: api.CauseIllegal}, {Regs: [32]uint32{1: 1}, Cause: api.CauseAlign}, {Cause: api.CauseRange}}
}

func TestP4_1Check(t *testing.T) {
	for _, h := range wrongHarts() {
		if err := hart.Check(h); err != api.ErrArg {
			t.Errorf("Check(%v) is %v", h, err)
		}
	}
	may := append(haltedHarts(), api.Hart{}, api.Hart{Id: 1}, api.Hart{Id: 2, Pc: 4}, api.Hart{Id: 3, Pc: most, Regs: [32]uint32{1: most, 31: top}})
	for _, h := range may {
		if err := hart.Check(h); err != api.OK {
			t.Errorf("Check(%v) is %v", h, err)
		}
	}
}

func TestP4_1Refused(t *testing.T) {
	for _, h := range append(wrongHarts(), haltedHarts()...) {
		for _, w := range []uint32{nop, 0x00002083, 0x00000073, 0, most} { // lw x1, 0(x0), ecall, and no instructions: the hart is asked first
			for _, size := range []int{64, 0, -1} {
				if access, why, err := hart.Act(h, w, size); access != (api.Access{}) || why != api.CauseNone || err != api.ErrArg {
					t.Errorf("Act(%v, %08x, %d) is %v, %v, %v", h, w, size, access, why, err)
				}
				if after, err := hart.Done(h, w, size, api.Answer{Value: 1}); after != (api.Hart{}) || err != api.ErrArg {
					t.Errorf("Done(%v, %08x, %d) is %v, %v", h, w, size, after, err)
				}
			}
		}
	}
}

// reckonedRow is an Op that makes x3 of x1 and x2, or of x1 and Imm, which is the second number then.
type reckonedRow struct {
	op                  api.Op
	first, second, want uint32
}

func reckonedRows() []reckonedRow {
	return []reckonedRow{
		{api.OpAdd, 2, 3, 5}, {api.OpAdd, most, 1, 0}, {api.OpAdd, top, top, 0}, {api.OpAdd, top - 1, 1, top},
		{api.OpSub, 7, 3, 4}, {api.OpSub, 0, 1, most}, {api.OpSub, 0, top, top}, {api.OpSub, 3, 7, minus(4)},
		{api.OpSll, 3, 4, 48}, {api.OpSll, 1, 31, top}, {api.OpSll, 1, 32, 1}, {api.OpSll, 1, 33, 2}, {api.OpSll, 1, most, top},
		{api.OpSrl, 48, 4, 3}, {api.OpSrl, top, 31, 1}, {api.OpSrl, top, 32, top}, {api.OpSrl, top, 33, 1 << 30}, {api.OpSrl, most, most, 1},
		{api.OpSra, 48, 4, 3}, {api.OpSra, top, 31, most}, {api.OpSra, top, 32, top}, {api.OpSra, top, 33, 3 << 30}, {api.OpSra, top - 1, most, 0},
		{api.OpSlt, 1, 2, 1}, {api.OpSlt, 2, 1, 0}, {api.OpSlt, most, 0, 1}, {api.OpSlt, 0, most, 0}, {api.OpSlt, top, top - 1, 1}, {api.OpSlt, 5, 5, 0},
		{api.OpSltu, 1, 2, 1}, {api.OpSltu, 2, 1, 0}, {api.OpSltu, most, 0, 0}, {api.OpSltu, 0, most, 1}, {api.OpSltu, top, top - 1, 0}, {api.OpSltu, 5, 5, 0},
		{api.OpXor, 12, 10, 6}, {api.OpXor, most, top, top - 1}, {api.OpOr, 12, 10, 14}, {api.OpOr, top, 1, top + 1}, {api.OpAnd, 12, 10, 8}, {api.OpAnd, most, top, top},
		{api.OpAddi, 5, minus(6), most}, {api.OpAddi, 5, 2047, 2052}, {api.OpAddi, 0, minus(2048), minus(2048)}, {api.OpAddi, most, 1, 0},
		{api.OpSlti, 1, 2, 1}, {api.OpSlti, 2, 2, 0}, {api.OpSlti, 0, most, 0}, {api.OpSlti, top, minus(2048), 1}, {api.OpSlti, most, 0, 1},
		{api.OpSltiu, 1, 2, 1}, {api.OpSltiu, 2, 2, 0}, {api.OpSltiu, 0, most, 1}, {api.OpSltiu, most, most, 0}, {api.OpSltiu, top, minus(2048), 1}, {api.OpSltiu, most, 0, 0},
		{api.OpXori, 12, 10, 6}, {api.OpXori, 5, most, minus(6)}, {api.OpOri, 12, 10, 14}, {api.OpOri, 1, minus(2048), minus(2047)}, {api.OpAndi, 12, 10, 8}, {api.OpAndi, top + 5, most, top + 5},
		{api.OpSlli, 3, 4, 48}, {api.OpSlli, 5, 0, 5}, {api.OpSlli, 1, 31, top}, {api.OpSrli, 48, 4, 3}, {api.OpSrli, top, 31, 1}, {api.OpSrai, 48, 4, 3}, {api.OpSrai, top, 31, most}, {api.OpSrai, top, 0, top},
		{api.OpMul, 6, 7, 42}, {api.OpMul, 1 << 16, 1 << 16, 0}, {api.OpMul, most, most, 1}, {api.OpMul, most, 2, minus(2)},
		{api.OpMulh, most, 2, most}, {api.OpMulh, most, most, 0}, {api.OpMulh, top, top, 1 << 30}, {api.OpMulh, 3, 5, 0},
		{api.OpMulhsu, most, 2, most}, {api.OpMulhsu, 2, most, 1}, {api.OpMulhsu, most, most, most}, {api.OpMulhsu, top, most, top},
		{api.OpMulhu, most, 2, 1}, {api.OpMulhu, most, most, minus(2)}, {api.OpMulhu, top, top, 1 << 30},
		{api.OpDiv, 7, 2, 3}, {api.OpDiv, minus(7), 2, minus(3)}, {api.OpDiv, 7, minus(2), minus(3)}, {api.OpDiv, 7, 0, most}, {api.OpDiv, 0, 0, most}, {api.OpDiv, top, most, top}, {api.OpDiv, top, 0, most},
		{api.OpDivu, 7, 2, 3}, {api.OpDivu, most, 2, top - 1}, {api.OpDivu, 7, 0, most}, {api.OpDivu, top, most, 0},
		{api.OpRem, 7, 2, 1}, {api.OpRem, minus(7), 2, most}, {api.OpRem, 7, minus(2), 1}, {api.OpRem, 7, 0, 7}, {api.OpRem, top, most, 0}, {api.OpRem, top, 0, top},
		{api.OpRemu, 7, 2, 1}, {api.OpRemu, most, 2, 1}, {api.OpRemu, 7, 0, 7}, {api.OpRemu, top, most, top},
	}
}

func TestP4_1Reckoned(t *testing.T) {
	for _, r := range reckonedRows() {
		i := api.Inst{Op: r.op, Rd: 3, Rs1: 1}
		h := pair(r.first, 77)
		if r.op >= api.OpAddi && r.op <= api.OpSrai {
			i.Imm = r.second
		} else {
			i.Rs2, h.Regs[2] = 2, r.second
		}
		want := h
		want.Pc, want.Regs[3] = 4, r.want
		check(t, h, word(t, i), 0, api.Answer{Value: 9, Ok: true}, behind{hart: want})
	}
}

func TestP4_1Own(t *testing.T) {
	for _, r := range []struct {
		id   int
		pc   uint32
		inst api.Inst
		want uint32
	}{
		{0, 0, api.Inst{Op: api.OpLui, Rd: 3, Imm: 0xfffff000}, 0xfffff000},
		{1, 8, api.Inst{Op: api.OpLui, Rd: 3}, 0},
		{0, 12, api.Inst{Op: api.OpAuipc, Rd: 3, Imm: 0x1000}, 0x100c},
		{0, 12, api.Inst{Op: api.OpAuipc, Rd: 3, Imm: 0xfffff000}, minus(0xff4)},
		{2, minus(4), api.Inst{Op: api.OpAuipc, Rd: 3, Imm: 0x1000}, 0xffc},
		{0, 0, api.Inst{Op: api.OpHartid, Rd: 3}, 0},
		{3, 4, api.Inst{Op: api.OpHartid, Rd: 3}, 3},
		{1, 1, api.Inst{Op: api.OpHartid, Rd: 3}, 1},
	} {
		h := api.Hart{Id: r.id, Pc: r.pc, Regs: [32]uint32{3: 55}}
		want := h
		want.Pc, want.Regs[3] = r.pc+4, r.want
		check(t, h, word(t, r.inst), -1, api.Answer{Value: 9, Ok: true}, behind{hart: want})
	}
}

// TestP4_1X0 does each Op with Rd x0, of what has one.
func TestP4_1X0(t *testing.T) {
	for op := api.OpLui; op <= api.OpHartid; op++ {
		if op == api.OpEcall {
			continue // it has no next word
		}
		h := pair(8, 8)
		h.Id, h.Pc = 2, 16
		i := lessened(api.Inst{Op: op, Rs1: 1, Rs2: 2})
		got, err := hart.Done(h, word(t, i), 64, api.Answer{Value: 7})
		if got.Regs != h.Regs || got.Cause != api.CauseNone || err != api.OK {
			t.Errorf("%v leaves %v, %v", i, got, err)
		}
	}
}

// TestP4_1Grid goes over each Op, with edges in its registers, which are the same ones or not, x0 among them.
func TestP4_1Grid(t *testing.T) {
	registers := [][3]int{{3, 1, 2}, {1, 1, 2}, {2, 1, 2}, {0, 1, 2}, {3, 1, 1}, {1, 1, 1}, {3, 0, 2}, {3, 1, 0}, {0, 0, 0}, {31, 1, 2}}
	for op := api.OpLui; op <= api.OpHartid; op++ {
		for _, r := range registers {
			checkEdges(t, lessened(api.Inst{Op: op, Rd: r[0], Rs1: r[1], Rs2: r[2]}))
			for _, imm := range []uint32{1, 2, 4, 31, 255, 2047, minus(4), minus(2048), most, 0x1000, 0xfffff000} {
				i := lessened(api.Inst{Op: op, Rd: r[0], Rs1: r[1], Rs2: r[2], Imm: imm})
				if _, err := isa.Encode(i); err == api.OK {
					checkEdges(t, i)
				}
			}
		}
	}
}

// checkEdges holds an instruction against what is wanted of it in harts whose x1 and x2 are edges.
func checkEdges(t *testing.T, i api.Inst) {
	t.Helper()
	w := word(t, i)
	for _, a := range edges() {
		for _, b := range edges() {
			h := pair(a, b)
			h.Id, h.Pc, h.Regs[3], h.Regs[31] = int(a%4), b&^3, 3, 31
			told := api.Answer{Value: a ^ b, Ok: a < b}
			check(t, h, w, 64, told, wanted(h, i, 64, told))
		}
	}
}

// lessened is an instruction less the registers that its Op does not name.
func lessened(i api.Inst) api.Inst {
	for _, less := range []func(*api.Inst){
		func(*api.Inst) {}, func(n *api.Inst) { n.Rs2 = 0 }, func(n *api.Inst) { n.Rd = 0 },
		func(n *api.Inst) { n.Rs1, n.Rs2 = 0, 0 }, func(n *api.Inst) { n.Rd, n.Rs1, n.Rs2 = 0, 0, 0 },
	} {
		n := i
		less(&n)
		if _, err := isa.Encode(n); err == api.OK {
			return n
		}
	}
	return i
}

// TestP4_1AnyWords does words of each Op, any ones, in harts of any numbers.
func TestP4_1AnyWords(t *testing.T) {
	source := rand.New(rand.NewSource(4))
	for range 200000 {
		h, i, w := anyHart(source), api.Inst{}, uint32(0)
		for ok := false; !ok; {
			w = anyWord(source)
			i, ok = isa.Decode(w)
		}
		size := []int{4096, 64, 4, 3, 0, -1, math.MaxInt, math.MinInt}[source.Intn(8)]
		a := api.Answer{Value: anyNumber(source), Ok: source.Intn(2) == 0}
		check(t, h, w, size, a, wanted(h, i, size, a))
	}
}

// anyNumber is a word: any one, an edge, or an address.
func anyNumber(source *rand.Rand) uint32 {
	switch source.Intn(3) {
	case 0:
		return source.Uint32()
	case 1:
		return edges()[source.Intn(len(edges()))]
	}
	return uint32(source.Intn(80))
}

// anyHart is a hart that goes on.
func anyHart(source *rand.Rand) api.Hart {
	h := api.Hart{Id: source.Intn(4), Pc: anyNumber(source)}
	for n := 1; n < 32; n++ {
		h.Regs[n] = anyNumber(source)
	}
	return h
}

// anyWord is a word whose opcode is one of an instruction's.
func anyWord(source *rand.Rand) uint32 {
	opcodes := []uint32{0x37, 0x17, 0x6f, 0x67, 0x63, 0x03, 0x23, 0x13, 0x33, 0x33 | 1<<25, 0x0f, 0x2f | 2<<12}
	w := source.Uint32()
	op := opcodes[source.Intn(len(opcodes))]
	switch op & 0x7f {
	case 0x33:
		return w&^(127|127<<25) | op
	case 0x2f:
		return w&^(127|7<<12) | op
	case 0x0f:
		return w&(255<<20) | op
	}
	return w&^127 | op
}

func TestP4_1Illegal(t *testing.T) {
	for _, w := range []uint32{0, most, 1, 0x00000072, 0x00000074, 0x00100073, 0x0000100f, 0x00003003, 0x00003023, 0x00002063, 0x40001033, 0x1005252f | 1<<20, 0x0000202e, 0xf1502573} {
		h := api.Hart{Id: 1, Pc: 7, Regs: [32]uint32{1: 1, 2: 3}}
		check(t, h, w, 0, api.Answer{Value: 3, Ok: true}, halted(h, api.CauseIllegal))
	}
	h := api.Hart{Id: 2, Pc: 8, Regs: [32]uint32{31: 9}}
	check(t, h, 0x00000073, 64, api.Answer{Value: 3}, behind{hart: api.Hart{Id: 2, Pc: 8, Regs: [32]uint32{31: 9}, Cause: api.CauseHalt}})
}

// accessRow is an access of x1's value at x2: the instruction, and what is told of it in a memory of so many bytes.
type accessRow struct {
	inst api.Inst
	addr uint32
	size int
	want api.Access
	why  api.Cause
}

func accessRows() []accessRow {
	lw, lh, lb := api.Inst{Op: api.OpLw, Rd: 3, Rs1: 2}, api.Inst{Op: api.OpLh, Rd: 3, Rs1: 2}, api.Inst{Op: api.OpLb, Rd: 3, Rs1: 2}
	lhu, lbu := api.Inst{Op: api.OpLhu, Rd: 3, Rs1: 2}, api.Inst{Op: api.OpLbu, Rd: 3, Rs1: 2}
	sw, sh, sb := api.Inst{Op: api.OpSw, Rs1: 2, Rs2: 1}, api.Inst{Op: api.OpSh, Rs1: 2, Rs2: 1}, api.Inst{Op: api.OpSb, Rs1: 2, Rs2: 1}
	lr, sc, amo := api.Inst{Op: api.OpLr, Rd: 3, Rs1: 2}, api.Inst{Op: api.OpSc, Rd: 3, Rs1: 2, Rs2: 1}, api.Inst{Op: api.OpAmoxor, Rd: 3, Rs1: 2, Rs2: 1}
	load := func(addr uint32, width int) api.Access {
		return api.Access{Kind: api.AccLoad, Addr: addr, Width: width}
	}
	store := func(addr uint32, width int, value uint32) api.Access {
		return api.Access{Kind: api.AccStore, Addr: addr, Width: width, Value: value}
	}
	none := api.Access{}
	return []accessRow{
		{lw, 8, 64, load(8, 4), 0}, {lh, 8, 64, load(8, 2), 0}, {lb, 9, 64, load(9, 1), 0}, {lhu, 10, 64, load(10, 2), 0}, {lbu, 11, 64, load(11, 1), 0},
		{sw, 8, 64, store(8, 4, 0x89abcdef), 0}, {sh, 10, 64, store(10, 2, 0xcdef), 0}, {sb, 11, 64, store(11, 1, 0xef), 0},
		{lr, 8, 64, api.Access{Kind: api.AccLr, Addr: 8, Width: 4}, 0},
		{sc, 8, 64, api.Access{Kind: api.AccSc, Addr: 8, Width: 4, Value: 0x89abcdef}, 0},
		{amo, 8, 64, api.Access{Kind: api.AccAmo, Addr: 8, Width: 4, Value: 0x89abcdef, Op: api.OpAmoxor}, 0},
		// Addresses that are not a multiple of the width.
		{lw, 1, 64, none, api.CauseAlign}, {lw, 2, 64, none, api.CauseAlign}, {lw, 3, 64, none, api.CauseAlign}, {lh, 1, 64, none, api.CauseAlign}, {lhu, 3, 64, none, api.CauseAlign},
		{sw, 6, 64, none, api.CauseAlign}, {sh, 5, 64, none, api.CauseAlign}, {lr, 2, 64, none, api.CauseAlign}, {sc, 1, 64, none, api.CauseAlign}, {amo, 3, 64, none, api.CauseAlign},
		// Both: this comes first.
		{lw, 65, 64, none, api.CauseAlign}, {lh, most, 64, none, api.CauseAlign}, {sw, 66, 0, none, api.CauseAlign}, {sc, 2, -1, none, api.CauseAlign}, {amo, most, 64, none, api.CauseAlign},
		// The end of memory, and beyond.
		{lw, 60, 64, load(60, 4), 0}, {lw, 64, 64, none, api.CauseRange}, {lw, 60, 63, none, api.CauseRange}, {lw, 60, 61, none, api.CauseRange}, {lw, 60, 60, none, api.CauseRange},
		{lh, 62, 64, load(62, 2), 0}, {lh, 62, 63, none, api.CauseRange}, {lh, 64, 64, none, api.CauseRange}, {lb, 63, 64, load(63, 1), 0}, {lb, 64, 64, none, api.CauseRange}, {lbu, 62, 63, load(62, 1), 0},
		{sw, 64, 64, none, api.CauseRange}, {sh, 64, 64, none, api.CauseRange}, {sb, 64, 64, none, api.CauseRange}, {sb, 63, 64, store(63, 1, 0xef), 0},
		{lr, 64, 64, none, api.CauseRange}, {sc, 64, 64, none, api.CauseRange}, {amo, 64, 64, none, api.CauseRange}, {amo, 0, 3, none, api.CauseRange},
		// Around 2^32.
		{lw, minus(4), 64, none, api.CauseRange}, {lh, minus(2), 64, none, api.CauseRange}, {lb, most, 64, none, api.CauseRange}, {sw, minus(4), 64, none, api.CauseRange}, {amo, minus(4), 4096, none, api.CauseRange},
		{lw, minus(4), 0, none, api.CauseRange}, {lw, minus(4), math.MaxInt, load(minus(4), 4), 0}, {lw, minus(4), 1 << 32, load(minus(4), 4), 0}, {lw, minus(4), 1<<32 - 1, none, api.CauseRange}, {lb, top, 64, none, api.CauseRange},
		// Memories of no bytes, and of less.
		{lw, 0, 0, none, api.CauseRange}, {sb, 0, 0, none, api.CauseRange}, {lb, 0, -1, none, api.CauseRange}, {lr, 0, -4, none, api.CauseRange}, {sc, 0, math.MinInt, none, api.CauseRange}, {lb, 0, 1, load(0, 1), 0},
	}
}

func TestP4_1Accesses(t *testing.T) {
	for _, r := range accessRows() {
		h := api.Hart{Pc: 4, Regs: [32]uint32{1: 0x89abcdef, 2: r.addr}}
		want := halted(h, r.why)
		if r.why == api.CauseNone {
			want.access, want.hart.Pc = r.want, 8
			if r.inst.Rd != 0 {
				want.hart.Regs[3] = 0
			}
		}
		check(t, h, word(t, r.inst), r.size, api.Answer{Ok: true}, want)
	}
}

// TestP4_1Places lays addresses by Imm, around 0 and 2^32.
func TestP4_1Places(t *testing.T) {
	for _, r := range []struct {
		base, imm, addr uint32
	}{
		{16, 3, 19}, {16, minus(16), 0}, {0, 63, 63}, {minus(1), 1, 0}, {minus(2000), 2004, 4}, {2048, minus(2048), 0},
	} {
		h := api.Hart{Regs: [32]uint32{2: r.base}}
		want := behind{api.Access{Kind: api.AccLoad, Addr: r.addr, Width: 1}, api.Hart{Pc: 4, Regs: [32]uint32{2: r.base, 5: 6}}}
		check(t, h, word(t, api.Inst{Op: api.OpLbu, Rd: 5, Rs1: 2, Imm: r.imm}), 64, api.Answer{Value: 6}, want)
	}
	h := api.Hart{Regs: [32]uint32{2: 4}} // a place below 0 is one beyond memory
	check(t, h, word(t, api.Inst{Op: api.OpLw, Rd: 5, Rs1: 2, Imm: minus(8)}), 64, api.Answer{}, halted(h, api.CauseRange))
}

// TestP4_1Told tells what was loaded, with bits beyond the width.
func TestP4_1Told(t *testing.T) {
	for _, r := range []struct {
		op         api.Op
		told, want uint32
	}{
		{api.OpLb, 127, 127}, {api.OpLb, 128, minus(128)}, {api.OpLb, 255, most}, {api.OpLb, 0xffffff7f, 127}, {api.OpLb, 0x180, minus(128)}, {api.OpLb, 0x100, 0},
		{api.OpLbu, 127, 127}, {api.OpLbu, 255, 255}, {api.OpLbu, 0xffffff80, 128}, {api.OpLbu, 0x100, 0}, {api.OpLbu, most, 255},
		{api.OpLh, 0x7fff, 0x7fff}, {api.OpLh, 0x8000, 0xffff8000}, {api.OpLh, 0xffff7fff, 0x7fff}, {api.OpLh, 0x18001, 0xffff8001}, {api.OpLh, 0x10000, 0}, {api.OpLh, 0x80, 0x80},
		{api.OpLhu, 0x7fff, 0x7fff}, {api.OpLhu, 0x8000, 0x8000}, {api.OpLhu, most, 0xffff}, {api.OpLhu, 0x10000, 0},
		{api.OpLw, 0x12345678, 0x12345678}, {api.OpLw, most, most}, {api.OpLw, top, top}, {api.OpLr, 0x89abcdef, 0x89abcdef}, {api.OpLr, most, most},
	} {
		h := api.Hart{Regs: [32]uint32{2: 8}}
		for _, rd := range []int{3, 2} { // Rd may be what the address is told by
			want := h
			want.Pc, want.Regs[rd] = 4, r.want
			if got, err := hart.Done(h, word(t, api.Inst{Op: r.op, Rd: rd, Rs1: 2}), 64, api.Answer{Value: r.told}); got != want || err != api.OK {
				t.Errorf("Op %d told %08x: %v, %v, want %v", r.op, r.told, got, err, want)
			}
		}
	}
}

func TestP4_1Sc(t *testing.T) {
	for _, r := range []struct {
		told api.Answer
		want uint32
	}{
		{api.Answer{Ok: true}, 0}, {api.Answer{}, 1}, {api.Answer{Value: 7, Ok: true}, 0}, {api.Answer{Value: most}, 1},
	} {
		h := pair(5, 8)
		for _, rd := range []int{3, 1, 2} {
			want := h
			want.Pc, want.Regs[rd] = 4, r.want
			access := api.Access{Kind: api.AccSc, Addr: 8, Width: 4, Value: 5}
			check(t, h, word(t, api.Inst{Op: api.OpSc, Rd: rd, Rs1: 2, Rs2: 1}), 64, r.told, behind{access, want})
		}
	}
}

// TestP4_1Amos tells each AMO's access and what is loaded; what is stored does not stand in either.
func TestP4_1Amos(t *testing.T) {
	for op := api.OpAmoswap; op <= api.OpAmomaxu; op++ {
		h := pair(5, 8)
		for _, rd := range []int{3, 1, 2} {
			want := h
			want.Pc, want.Regs[rd] = 4, 0x89abcdef
			access := api.Access{Kind: api.AccAmo, Addr: 8, Width: 4, Value: 5, Op: op}
			check(t, h, word(t, api.Inst{Op: op, Rd: rd, Rs1: 2, Rs2: 1}), 64, api.Answer{Value: 0x89abcdef}, behind{access, want})
		}
	}
}

func TestP4_1Orders(t *testing.T) {
	for op := api.OpLr; op <= api.OpAmomaxu; op++ {
		for n := range 4 {
			i := api.Inst{Op: op, Rd: 3, Rs1: 2, Aq: n&1 != 0, Rl: n&2 != 0}
			access, why, err := hart.Act(pair(5, 8), word(t, i), 64)
			if access.Aq != i.Aq || access.Rl != i.Rl || why != api.CauseNone || err != api.OK {
				t.Errorf("the access of %v is %v, %v, %v", i, access, why, err)
			}
		}
	}
}

func TestP4_1Fences(t *testing.T) {
	for imm := range uint32(256) {
		h := api.Hart{Pc: minus(4), Regs: [32]uint32{1: 1}}
		want := h
		want.Pc = 0
		for _, size := range []int{64, 0, -1} {
			check(t, h, word(t, api.Inst{Op: api.OpFence, Imm: imm}), size, api.Answer{Value: 1, Ok: true}, behind{api.Access{Kind: api.AccFence, Value: imm}, want})
		}
	}
}

// jumpRow is a jump from a place by x1 or by x1 and x2, and where it goes on.
type jumpRow struct {
	op                api.Op
	pc, first, second uint32
	imm               uint32
	place             uint32
	why               api.Cause
}

func jumpRows() []jumpRow {
	align := api.CauseAlign
	return []jumpRow{
		{api.OpJal, 8, 0, 0, 20, 28, 0}, {api.OpJal, 8, 0, 0, minus(8), 0, 0}, {api.OpJal, 8, 0, 0, 0, 8, 0}, {api.OpJal, 4, 0, 0, minus(8), minus(4), 0}, {api.OpJal, minus(4), 0, 0, 8, 4, 0},
		{api.OpJal, 8, 0, 0, 2, 0, align}, {api.OpJal, 8, 0, 0, minus(6), 0, align}, {api.OpJal, 2, 0, 0, 2, 4, 0}, {api.OpJal, 1, 0, 0, 4, 0, align}, {api.OpJal, 0, 0, 0, 4096, 4096, 0},
		{api.OpJalr, 8, 20, 0, 0, 20, 0}, {api.OpJalr, 8, 20, 0, 1, 20, 0}, {api.OpJalr, 8, 21, 0, 0, 20, 0}, {api.OpJalr, 8, 20, 0, 4, 24, 0}, {api.OpJalr, 8, 0, 0, minus(4), minus(4), 0},
		{api.OpJalr, 8, minus(4), 0, 8, 4, 0}, {api.OpJalr, 8, most, 0, 1, 0, 0}, {api.OpJalr, 8, 20, 0, 2, 0, align}, {api.OpJalr, 8, 20, 0, 3, 0, align}, {api.OpJalr, 8, most, 0, 0, 0, align}, {api.OpJalr, 8, 19, 0, 1, 20, 0},
		{api.OpBeq, 8, 5, 5, 8, 16, 0}, {api.OpBeq, 8, 5, 6, 8, 12, 0}, {api.OpBeq, 8, 5, 5, 2, 0, align}, {api.OpBeq, 8, 5, 6, 2, 12, 0}, {api.OpBeq, 4, 5, 5, minus(8), minus(4), 0}, {api.OpBeq, minus(4), 5, 5, 4, 0, 0},
		{api.OpBne, 8, 5, 6, 8, 16, 0}, {api.OpBne, 8, 5, 5, 8, 12, 0}, {api.OpBne, 8, 5, 6, minus(2), 0, align}, {api.OpBne, 8, 5, 5, minus(2), 12, 0}, {api.OpBne, minus(8), 0, most, 12, 4, 0},
		{api.OpBlt, 8, 1, 2, minus(8), 0, 0}, {api.OpBlt, 8, 2, 1, minus(8), 12, 0}, {api.OpBlt, 8, 2, 2, 8, 12, 0}, {api.OpBlt, 8, most, 0, 8, 16, 0}, {api.OpBlt, 8, 0, most, 8, 12, 0}, {api.OpBlt, 8, top, top - 1, 6, 0, align}, {api.OpBlt, 8, 2, 1, 6, 12, 0},
		{api.OpBge, 8, 1, 2, 8, 12, 0}, {api.OpBge, 8, 2, 1, 8, 16, 0}, {api.OpBge, 8, 2, 2, 8, 16, 0}, {api.OpBge, 8, most, 0, 8, 12, 0}, {api.OpBge, 8, 0, most, 8, 16, 0}, {api.OpBge, 8, 2, 2, 6, 0, align}, {api.OpBge, 8, top, 0, 6, 12, 0},
		{api.OpBltu, 8, 1, 2, 8, 16, 0}, {api.OpBltu, 8, 2, 1, 8, 12, 0}, {api.OpBltu, 8, 2, 2, 8, 12, 0}, {api.OpBltu, 8, most, 0, 8, 12, 0}, {api.OpBltu, 8, 0, most, 8, 16, 0}, {api.OpBltu, 8, 0, most, 10, 0, align}, {api.OpBltu, 8, most, 0, 10, 12, 0},
		{api.OpBgeu, 8, 1, 2, 8, 12, 0}, {api.OpBgeu, 8, 2, 1, 8, 16, 0}, {api.OpBgeu, 8, 2, 2, 8, 16, 0}, {api.OpBgeu, 8, most, 0, 8, 16, 0}, {api.OpBgeu, 8, 0, most, 8, 12, 0}, {api.OpBgeu, 8, most, 0, 10, 0, align}, {api.OpBgeu, 8, 0, most, 10, 12, 0},
	}
}

func TestP4_1Jumps(t *testing.T) {
	for _, r := range jumpRows() {
		h := pair(r.first, r.second)
		h.Pc = r.pc
		i := api.Inst{Op: r.op, Imm: r.imm}
		switch {
		case r.op == api.OpJal:
			i.Rd = 3
		case r.op == api.OpJalr:
			i.Rd, i.Rs1 = 3, 1
		default:
			i.Rs1, i.Rs2 = 1, 2
		}
		want := halted(h, r.why)
		if r.why == api.CauseNone {
			want.hart.Pc = r.place
			if i.Rd != 0 {
				want.hart.Regs[3] = r.pc + 4
			}
		}
		check(t, h, word(t, i), 0, api.Answer{Value: 1, Ok: true}, want)
	}
}

// TestP4_1Back has jalr's Rd as its Rs1: the place is told by what it had ahead.
func TestP4_1Back(t *testing.T) {
	h := api.Hart{Pc: 8, Regs: [32]uint32{1: 40}}
	check(t, h, word(t, api.Inst{Op: api.OpJalr, Rd: 1, Rs1: 1, Imm: 4}), 64, api.Answer{}, behind{hart: api.Hart{Pc: 44, Regs: [32]uint32{1: 12}}})
}

func TestP4_1Amo(t *testing.T) {
	for op := api.OpAmoswap; op <= api.OpAmomaxu; op++ {
		for _, was := range edges() {
			for _, value := range edges() {
				if got, err := hart.Amo(op, was, value); got != stored(op, was, value) || err != api.OK {
					t.Errorf("Amo(%d, %d, %d) is %d, %v", op, was, value, got, err)
				}
			}
		}
	}
	for op, want := range map[api.Op]uint32{
		api.OpAmoswap: 10, api.OpAmoadd: 22, api.OpAmoxor: 6, api.OpAmoand: 8, api.OpAmoor: 14,
		api.OpAmomin: 10, api.OpAmomax: 12, api.OpAmominu: 10, api.OpAmomaxu: 12,
	} {
		if got, err := hart.Amo(op, 12, 10); got != want || err != api.OK {
			t.Errorf("Amo(%d, 12, 10) is %d, %v, want %d", op, got, err, want)
		}
	}
	for op, want := range map[api.Op]uint32{api.OpAmomin: top, api.OpAmomax: 1, api.OpAmominu: 1, api.OpAmomaxu: top} {
		if got, err := hart.Amo(op, top, 1); got != want || err != api.OK {
			t.Errorf("Amo(%d, -2^31, 1) is %d, %v, want %d", op, got, err, want)
		}
	}
	wrong := []api.Op{-1, 0, 60, 59, 114, math.MinInt, math.MaxInt, 1 << 32, 1<<32 + api.OpAmoadd, -api.OpAmoadd}
	for op := api.OpLui; op <= api.OpSc; op++ {
		wrong = append(wrong, op)
	}
	for _, op := range wrong {
		if got, err := hart.Amo(op, 3, 5); got != 0 || err != api.ErrArg {
			t.Errorf("Amo(%d, 3, 5) is %d, %v", op, got, err)
		}
	}
}

func TestP4_1Same(t *testing.T) {
	h := api.Hart{Id: 1, Pc: 4, Regs: [32]uint32{1: 7, 31: 9}, Cause: api.CauseAlign}
	others := []api.Hart{h, h, h, h}
	others[0].Id, others[1].Pc, others[2].Cause, others[3].Cause = 2, 8, api.CauseNone, api.CauseRange
	for n := range 32 {
		other := h
		other.Regs[n]++
		others = append(others, other)
	}
	for _, other := range others {
		if hart.Same(h, other) || hart.Same(other, h) {
			t.Errorf("%v and %v are the same", h, other)
		}
		if !hart.Same(other, other) {
			t.Errorf("%v is not the same", other)
		}
	}
	if !hart.Same(api.Hart{}, api.Hart{}) || !hart.Same(api.Hart{Id: -1}, api.Hart{Id: -1}) || hart.Same(api.Hart{Id: -1}, api.Hart{Id: 4}) {
		t.Error("harts that may not be are the same, or not, as others are")
	}
}

// TestP4_2Follows does any words: what follows of them holds without asking what they mean.
func TestP4_2Follows(t *testing.T) {
	source := rand.New(rand.NewSource(42))
	for n := range 100000 {
		h, w := anyHart(source), anyWord(source)
		if n%4 == 0 {
			w = source.Uint32()
		}
		a, b := api.Answer{Value: anyNumber(source), Ok: true}, api.Answer{Value: anyNumber(source)}
		after, err := hart.Done(h, w, 64, a)
		if err != api.OK || after.Regs[0] != 0 || after.Id != h.Id {
			t.Fatalf("%08x leaves %v, %v of %v", w, after, err, h)
		}
		changed := 0
		for r := range h.Regs {
			changed += int(one(h.Regs[r] != after.Regs[r]))
		}
		if changed > 1 || after.Cause != api.CauseNone && (changed > 0 || after.Pc != h.Pc) {
			t.Fatalf("%08x makes %v of %v", w, after, h)
		}
		access, _, _ := hart.Act(h, w, 64)
		switch access.Kind {
		case api.AccLoad, api.AccLr, api.AccSc, api.AccAmo:
			continue
		}
		if other, err := hart.Done(h, w, 64, b); other != after || err != api.OK {
			t.Fatalf("%08x hangs on the answer: %v, %v", w, after, other)
		}
	}
}

// TestP4_2X0 tells loads, lr, sc and AMOs answers that x0 is not to have.
func TestP4_2X0(t *testing.T) {
	for _, op := range []api.Op{api.OpLb, api.OpLh, api.OpLw, api.OpLbu, api.OpLhu, api.OpLr, api.OpSc, api.OpAmoswap, api.OpAmomaxu} {
		h := pair(8, 5)
		want := h
		want.Pc = 4
		if got, err := hart.Done(h, word(t, api.Inst{Op: op, Rs1: 1}), 64, api.Answer{Value: 77}); got != want || err != api.OK {
			t.Errorf("Op %d leaves %v, %v", op, got, err)
		}
	}
}
