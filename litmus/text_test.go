package litmus_test

import (
	"math"
	"strings"
	"testing"

	"quadrille/api"
	"quadrille/litmus"
)

// lines are steps and their lines.
func lines() []struct {
	step api.Step
	line string
} {
	return []struct {
		step api.Step
		line string
	}{
		{load(1, x), "r1 = x"},
		{load(2, y), "r2 = y"},
		{load(3, z), "r3 = z"},
		{load(4, w), "r4 = w"},
		{by(load(1, x), 3), "r1 = x by r3"},
		{aq(load(1, x)), "r1 = x aq"},
		{rl(load(1, x)), "r1 = x rl"},
		{aq(rl(load(1, x))), "r1 = x aq rl"},
		{by(aq(load(1, x)), 1), "r1 = x by r1 aq"},
		{by(rl(load(1, x)), 2), "r1 = x by r2 rl"},
		{by(aq(rl(load(4, w))), 4), "r4 = w by r4 aq rl"},
		{store(x, 5), "x = 5"},
		{store(y, 0), "y = 0"},
		{store(z, 10), "z = 10"},
		{store(w, math.MaxUint32), "w = 4294967295"},
		{store(x, 1<<31), "x = 2147483648"},
		{data(store(x, 0), 2), "x = r2"},
		{data(store(w, 0), 1), "w = r1"},
		{data(store(y, 0), 4), "y = r4"},
		{by(store(x, 5), 3), "x = 5 by r3"},
		{aq(store(x, 5)), "x = 5 aq"},
		{rl(store(x, 5)), "x = 5 rl"},
		{by(aq(rl(store(x, 5))), 3), "x = 5 by r3 aq rl"},
		{by(data(aq(rl(store(x, 0))), 3), 3), "x = r3 by r3 aq rl"},
		{by(data(store(x, 0), 1), 2), "x = r1 by r2"},
		{swap(1, x, 5), "r1 = swap x 5"},
		{swap(4, w, 0), "r4 = swap w 0"},
		{data(swap(1, x, 0), 2), "r1 = swap x r2"},
		{data(swap(3, z, 0), 3), "r3 = swap z r3"},
		{by(swap(1, x, 5), 3), "r1 = swap x 5 by r3"},
		{aq(swap(1, x, 5)), "r1 = swap x 5 aq"},
		{rl(data(swap(1, x, 0), 2)), "r1 = swap x r2 rl"},
		{by(aq(rl(data(swap(1, x, 0), 2))), 3), "r1 = swap x r2 by r3 aq rl"},
		{add(1, x, 5), "r1 = add x 5"},
		{add(2, y, math.MaxUint32), "r2 = add y 4294967295"},
		{data(add(1, x, 0), 2), "r1 = add x r2"},
		{data(add(4, w, 0), 4), "r4 = add w r4"},
		{by(add(1, x, 5), 3), "r1 = add x 5 by r3"},
		{aq(data(add(1, x, 0), 2)), "r1 = add x r2 aq"},
		{rl(add(1, x, 5)), "r1 = add x 5 rl"},
		{by(aq(rl(data(add(1, x, 0), 2))), 3), "r1 = add x r2 by r3 aq rl"},
		{fence(3, 1), "fence rw w"},
		{fence(1, 1), "fence w w"},
		{fence(1, 2), "fence w r"},
		{fence(1, 3), "fence w rw"},
		{fence(2, 1), "fence r w"},
		{fence(2, 2), "fence r r"},
		{fence(2, 3), "fence r rw"},
		{fence(3, 2), "fence rw r"},
		{fence(3, 3), "fence rw rw"},
		{branch(1), "if r1"},
		{branch(2), "if r2"},
		{branch(3), "if r3"},
		{branch(4), "if r4"},
	}
}

// holdText holds a test and its text against each other.
func holdText(t *testing.T, v api.Test, text string) {
	t.Helper()
	if got, err := litmus.Print(v); err != api.OK || got != text {
		t.Errorf("Print of %v is %q, %v, want %q", v, got, err, text)
	}
	if got, line, err := litmus.Parse(text); err != api.OK || line != 0 || !litmus.Same(got, v) {
		t.Errorf("Parse of %q is %v, %d, %v, want %v", text, got, line, err, v)
	}
}

// TestP9_1Lines has each Kind's line, with all that may stand in it.
func TestP9_1Lines(t *testing.T) {
	for _, r := range lines() {
		holdText(t, test(thread(r.step)), "hart\n"+r.line+"\n")
		holdText(t, test(nil, thread(branch(1), r.step), thread(r.step), nil), "hart\nhart\nif r1\n"+r.line+"\nhart\n"+r.line+"\nhart\n")
	}
}

// TestP9_1Texts has whole tests, at their bounds.
func TestP9_1Texts(t *testing.T) {
	holdText(t, test(nil), "hart\n")
	holdText(t, test(nil, nil, nil, nil), "hart\nhart\nhart\nhart\n")
	holdText(t, test(thread(store(x, 1), load(1, y)), thread(store(y, 1), load(1, x))), "hart\nx = 1\nr1 = y\nhart\ny = 1\nr1 = x\n")
	full := times(api.MaxOps, branch(1))
	holdText(t, test(full, full, full, full), strings.Repeat("hart\n"+strings.Repeat("if r1\n", api.MaxOps), 4))
	holdText(t, test(append(times(api.MaxAccess, load(1, x)), times(api.MaxAccess, fence(3, 3))...)), "hart\n"+strings.Repeat("r1 = x\n", 8)+strings.Repeat("fence rw rw\n", 8))
	holdText(t, test(times(2, load(1, x), store(x, 1), swap(1, x, 2))), "hart\n"+strings.Repeat("r1 = x\nx = 1\nr1 = swap x 2\n", 2)) // 9600 ways
}

// holdWrong holds a text that is no test's, and the line that may not stand there.
func holdWrong(t *testing.T, text string, want int, why api.Errno) {
	t.Helper()
	if got, line, err := litmus.Parse(text); err != why || line != want || len(got.Threads) != 0 {
		t.Errorf("Parse of %.40q is %v, %d, %v, want %d, %v", text, got, line, err, want, why)
	}
}

// TestP9_1NoLines has lines that are none, each behind some that are, and ahead of others.
func TestP9_1NoLines(t *testing.T) {
	for _, line := range []string{
		"", " ", "  ", "\t", "\r", "\x00", "\xff", "hart ", " hart", "hart 0", "hart 1", "hart hart", "Hart", "harts", "har", "hart\r", "hart\t", "hart\xff",
		"r1", "r1 =", "r1 = ", "r1 x", "r1 x =", "= x", "r1=x", "r1 =x", "r1= x", "r1  = x", "r1 =  x", " r1 = x", "r1 = x ", "r1 = x\t", "r1\t= x", "r1 = x\r", "r1 == x", "r1 := x", "r1 = = x",
		"r0 = x", "r5 = x", "r01 = x", "r = x", "r-1 = x", "R1 = x", "r10 = x", "r1r1 = x", "x1 = x", "1 = x", "rx = x", "r１ = x", "r\xb1 = x", "r\xff = x",
		"r1 = v", "r1 = X", "r1 = xy", "r1 = xx", "r1 = xyzw", "r1 = r1", "r1 = r2", "r1 = 1", "r1 = 0", "r1 = x 1", "r1 = x r1", "r1 = x x", "r1 = \xff", "r1 = load x",
		"r1 = x by", "r1 = x by ", "r1 = x by x", "r1 = x by r0", "r1 = x by r5", "r1 = x by 1", "r1 = x r3", "r1 = x by r1 r2", "r1 = x by r1 by r2", "r1 = x by  r1", "r1 = x by r1 ",
		"r1 = x rl aq", "r1 = x aq by r3", "r1 = x rl by r3", "r1 = x aq rl by r3", "r1 = x by r3 rl aq", "r1 = x aq aq", "r1 = x rl rl", "r1 = x aqrl", "r1 = x aq.rl", "r1 = x  aq", "r1 = x aq  rl", "r1 = x aq ", "r1 = x AQ", "r1 = x aq rl aq", "r1 = x Aq",
		"aq", "rl", "by r1", "aq r1 = x", "by r3 r1 = x",
		"x", "x =", "x = ", "x 5", "x=5", "x =5", "x  = 5", "x =  5", " x = 5", "x = 5 ", "v = 5", "X = 5", "xy = 5", "xx = 5", "x = y", "x = x", "x = 5 6", "x = 5 r1", "x = r1 5", "x = r1 r2", "x = a",
		"x = r0", "x = r5", "x = r", "x = R1", "x = r11", "x = r01", "x = r1r", "x = rl", "x = by r1", "x = aq", "x = r-1",
		"x = -1", "x = +1", "x = -0", "x = +0", "x = 01", "x = 00", "x = 007", "x = 4294967296", "x = 4294967297", "x = 04294967295", "x = 18446744073709551616", "x = 99999999999999999999999999", "x = 1.0", "x = 0x1", "x = 1e1", "x = 1_000", "x = 1,000", "x = 5\xff", "x = ５", "x = 5\r", "x = - 1", "x = --1", "x = 0b1", "x = 1.",
		"x = 5 rl aq", "x = 5 aq by r3", "x = 5 rl by r3", "x = r2 rl aq", "x = r2 aq by r3", "x = 5 by", "x = 5 by r0", "x = 5 by r5", "x = 5 by 3", "x = 5 by r3 by r3", "x = 5 aq aq", "x = 5 aqrl",
		"swap x 5", "r1 = swap", "r1 = swap x", "r1 = swap x ", "r1 = swap 5", "r1 = swap r2", "r1 = swap x y", "r1 = swap x 5 6", "r1 = swap x r2 5", "r1 = swap  x 5", "r1 = swap x  5", "r1 = swap x 5 ", "r1 = swap v 5", "r1 = swap xy 5", "r1 = swap x -5", "r1 = swap x +5", "r1 = swap x 05", "r1 = swap x 4294967296", "r1 = swap x r0", "r1 = swap x r5", "x = swap x 5", "r5 = swap x 5", "r0 = swap x 5", "r1 = Swap x 5", "r1 swap x 5", "r1 = swap x = 5", "r1 = swap swap x 5", "r1 = swap add x 5", "r1 = swap aq x 5", "r1 = swap x 5 rl aq", "r1 = swap x 5 aq by r3", "r1 = swap x by r3", "r1 = swap x aq",
		"add x 5", "r1 = add", "r1 = add x", "r1 = add x ", "r1 = add 5", "r1 = add r2", "r1 = add x y", "r1 = add x 5 6", "r1 = add x r2 r3", "r1 = add  x 5", "r1 = add x  5", "r1 = add x 5 ", "r1 = add v 5", "r1 = add x -5", "r1 = add x 05", "r1 = add x 4294967296", "r1 = add x r0", "r1 = add x r5", "x = add x 5", "r5 = add x 5", "r1 = adds x 5", "r1 = add swap x 5", "r1 = x add 5", "r1 = add x 5 rl aq", "r1 = add x r2 rl by r3",
		"fence", "fence ", "fence rw", "fence rw ", "fence rw rw rw", "fence rw rw ", "fence  rw rw", "fence rw  rw", " fence rw rw", "fence wr rw", "fence rw wr", "fence rwrw", "fence rr w", "fence w ww", "fence 3 3", "fence 1 1", "fence RW RW", "fence rw, rw", "fence rw aq", "fence rw rw aq", "fence r1 r2", "fence i o", "fence iorw iorw", "Fence rw rw", "fence.tso", "fence 0 rw", "fences rw rw", "fence rw rw by r1",
		"if", "if ", "if r0", "if r5", "if x", "if 1", "if r1 ", "if  r1", " if r1", "if r1 r2", "if r1 r1", "If r1", "ifr1", "if r01", "if r1 aq", "if r1 by r2", "if r1 = x", "if not r1", "if r1:", "if r1\r", "if R1",
		"# x = 1", "x = 1 # one", "x = 1;", "x = 1; y = 1", "exit", "none", "none r1", "begin",
	} {
		holdWrong(t, line+"\n", 1, api.ErrLine)
		holdWrong(t, "hart\n"+line+"\n", 2, api.ErrLine)
		holdWrong(t, "hart\nr1 = x\nhart\n"+line+"\nx = 1\n", 4, api.ErrLine)
		holdWrong(t, "hart\n"+line+"\nx = 01\nhart", 2, api.ErrLine) // the first of three
		if line != "" {
			holdWrong(t, "hart\nr1 = x\n"+line, 3, api.ErrLine)
		}
	}
}

// TestP9_1WrongTexts has lines that may not stand where they do, and what no line is to blame for.
func TestP9_1WrongTexts(t *testing.T) {
	many := func(n int, lines string) string { return strings.Repeat(lines, n) }
	for _, r := range []struct {
		text string
		want int
	}{
		{"", 0}, {"\n", 1}, {"\n\n", 1}, {"hart", 1}, {"x = 1", 1}, {"x = 1\n", 1}, {"hart\nx = 1", 2}, {"hart\nhart", 2}, {"hart\nx = 1\n\n", 3}, {"hart\n\nx = 1\n", 2}, {"\nhart\n", 1},
		{"hart\n ", 2}, {"hart\nx = 1\n ", 3}, {"hart\r\nx = 1\r\n", 1}, {"hart\rx = 1\r", 1}, {"hart\nx = 1\r\n", 2}, {"hart\n\x00", 2}, {"hart\n\xff\xfe\n", 2}, {"hart\x00\n", 1}, {"\ufeffhart\n", 1},
		{"r1 = x\nhart\n", 1}, {"x = 1\nhart\n", 1}, {"fence rw rw\nhart\n", 1}, {"if r1\nhart\n", 1}, {"r1 = swap x 1\nhart\n", 1}, {"r1 = add x 1\nhart\n", 1}, {"x = 1\nx = 1\n", 1},
		{many(5, "hart\n"), 5}, {many(6, "hart\n"), 5}, {many(4, "hart\nx = 1\n") + "hart\n", 9}, {many(4, "hart\n") + "hart", 5}, {many(4, "hart\n") + "no\nhart\n", 5}, {many(4, "hart\n") + "x = 1\nhart\n", 6},
		{"hart\n" + many(17, "if r1\n"), 18}, {"hart\n" + many(20, "if r1\n"), 18}, {"hart\n" + many(16, "if r1\n") + "hart\n" + many(17, "if r1\n"), 35}, {"hart\n" + many(16, "if r1\n") + "fence rw rw\n", 18}, {"hart\n" + many(17, "fence rw rw\n") + "hart\n", 18}, {"hart\n" + many(16, "if r1\n") + "x = 1\n", 18}, {"hart\n" + many(16, "if r1\n") + "hart\nx\n", 19},
		// accesses
		{"hart\n" + many(9, "r1 = x\n"), 0}, {many(3, "hart\n"+many(3, "r1 = x\n")), 0}, {"hart\n" + many(16, "r1 = x\n"), 0}, {many(4, "hart\n"+many(16, "r1 = swap x r1\n")), 0},
		// ways
		{"hart\n" + many(8, "x = 1\n"), 0}, {"hart\n" + many(3, "r1 = x\nr1 = swap x 2\n"), 0}, {"hart\n" + many(3, "r1 = x\nr1 = add x 2\n"), 0}, {many(4, "hart\nx = 1\nr1 = x\n"), 0},
		// a line goes ahead of both
		{"hart\n" + many(9, "r1 = x\n") + "no\n", 11}, {"hart\n" + many(9, "r1 = x\n") + "x = 01\n", 11}, {"hart\n" + many(8, "x = 1\n") + "hart", 10}, {"hart\n" + many(17, "r1 = x\n"), 18}, {many(5, "hart\nx = 1\nr1 = x\n"), 13}, {"x = 1\n" + many(9, "hart\nr1 = x\n"), 1},
	} {
		holdWrong(t, r.text, r.want, api.ErrLine)
	}
}

// TestP9_1Long has texts of the most bytes that they may have, and of one more.
func TestP9_1Long(t *testing.T) {
	upTo := func(n int, text, more string) string { return text + strings.Repeat(more, n)[:n-len(text)] }
	for _, r := range []struct {
		text, more string
		want       int
	}{
		{"", "hart\n", 5}, {"hart\n", "if r1\n", 18}, {"", " ", 1}, {"hart\n", "x", 2}, {"hart\nx = ", "1", 2}, {"hart\nx = 1", " ", 2}, {"", "\n", 1}, {"hart\nr1 = x\nfence ", "rw ", 3}, {"hart\n", "\xff", 2},
	} {
		holdWrong(t, upTo(api.MaxText, r.text, r.more), r.want, api.ErrLine)
		holdWrong(t, upTo(api.MaxText-1, r.text, r.more)+"\n", r.want, api.ErrLine)
		holdWrong(t, upTo(api.MaxText+1, r.text, r.more), 0, api.ErrLong)
		holdWrong(t, upTo(api.MaxText, r.text, r.more)+"\n", 0, api.ErrLong)
		holdWrong(t, upTo(2*api.MaxText, r.text, r.more), 0, api.ErrLong)
	}
	// Bytes count, not runes.
	holdWrong(t, strings.Repeat("é", api.MaxText/2), 1, api.ErrLine)
	holdWrong(t, strings.Repeat("é", api.MaxText/2+1), 0, api.ErrLong)
}

// TestP9_1Same has two of which one is changed in each part.
func TestP9_1Same(t *testing.T) {
	v := func() api.Test {
		return test(thread(by(load(1, x), 2), fence(2, 2), aq(store(y, 1))), nil, thread(branch(1), data(swap(2, z, 0), 1)))
	}
	if !litmus.Same(v(), v()) || !litmus.Same(api.Test{}, test()) || !litmus.Same(test(nil), test(thread())) || !litmus.Same(api.Test{}, api.Test{Threads: [][]api.Step{}}) {
		t.Error("two are the same, and are told to be others")
	}
	for i, change := range []func(v *api.Test){
		func(v *api.Test) { v.Threads = nil },
		func(v *api.Test) { v.Threads = v.Threads[:2] },
		func(v *api.Test) { v.Threads = append(v.Threads, nil) },
		func(v *api.Test) { v.Threads[0] = v.Threads[0][:2] },
		func(v *api.Test) { v.Threads[0] = append(v.Threads[0], branch(1)) },
		func(v *api.Test) { v.Threads[0] = nil },
		func(v *api.Test) { v.Threads[1] = thread(branch(1)) },
		func(v *api.Test) { v.Threads[1] = thread(api.Step{}) },
		func(v *api.Test) { v.Threads[0], v.Threads[1] = v.Threads[1], v.Threads[0] },
		func(v *api.Test) { v.Threads[0], v.Threads[2] = v.Threads[2], v.Threads[0] },
		func(v *api.Test) { v.Threads[0][0], v.Threads[0][1] = v.Threads[0][1], v.Threads[0][0] },
		func(v *api.Test) { v.Threads[0], v.Threads[1] = v.Threads[0][:2], v.Threads[0][2:] },
	} {
		c := v()
		change(&c)
		if litmus.Same(v(), c) || litmus.Same(c, v()) {
			t.Errorf("change %d leaves the same", i)
		}
	}
	for i, change := range []func(s *api.Step){
		func(s *api.Step) { s.Kind++ },
		func(s *api.Step) { s.Reg-- },
		func(s *api.Step) { s.Var++ },
		func(s *api.Step) { s.Num++ },
		func(s *api.Step) { s.Data++ },
		func(s *api.Step) { s.By-- },
		func(s *api.Step) { s.Aq = !s.Aq },
		func(s *api.Step) { s.Rl = !s.Rl },
		func(s *api.Step) { s.Pred++ },
		func(s *api.Step) { s.Succ-- },
	} {
		for hart, steps := range v().Threads {
			for n := range steps {
				c, d := v(), v()
				change(&c.Threads[hart][n])
				change(&d.Threads[hart][n])
				if litmus.Same(v(), c) || litmus.Same(c, v()) || !litmus.Same(c, d) { // whether they may be or not
					t.Errorf("change %d of step %d of thread %d", i, n, hart)
				}
			}
		}
	}
}
