package litmus_test

import (
	"math/rand"
	"regexp"
	"slices"
	"strings"
	"testing"

	"quadrille/api"
	"quadrille/litmus"
)

// TestP9_4Again holds Print and Parse of any tests against each other.
func TestP9_4Again(t *testing.T) {
	source := rand.New(rand.NewSource(95))
	for range 5000 {
		v := anyTest(source, api.MaxAccess)
		before := copied(v)
		text, err := litmus.Print(v)
		if err != api.OK {
			t.Fatalf("%v: Print is %v", v, err)
		}
		again, line, err := litmus.Parse(text)
		if err != api.OK || line != 0 || !litmus.Same(again, v) {
			t.Fatalf("%v: Parse of %q is %v, %d, %v", v, text, again, line, err)
		}
		if twice, err := litmus.Print(again); err != api.OK || twice != text {
			t.Fatalf("Print of Parse of %q is %q, %v", text, twice, err)
		}
		if !litmus.Same(v, before) {
			t.Fatal("what was handed in is changed")
		}
	}
}

// form is a line that may be, told again: numbers are asked beside.
func form() *regexp.Regexp {
	const register, variable, number, set = `r[1-4]`, `[x-z]|w`, `0|[1-9][0-9]*`, `r|w|rw`
	const marks = `( by (` + register + `))?( aq)?( rl)?`
	const stored = `(` + number + `|` + register + `)`
	return regexp.MustCompile(`^(hart|if (` + register + `)|fence (` + set + `) (` + set + `)|(` + register + `) = (` + variable + `)` + marks +
		`|(` + variable + `) = ` + stored + marks + `|(` + register + `) = (swap|add) (` + variable + `) ` + stored + marks + `)$`)
}

// isWord tells whether digits are at most 2^32 - 1.
func isWord(digits string) bool {
	return len(digits) < 10 || len(digits) == 10 && digits <= "4294967295"
}

// wrongLine tells the first line that may not stand where it does, and true.
func wrongLine(text string, form *regexp.Regexp) (int, bool) {
	harts, steps := 0, 0
	digits := regexp.MustCompile(`[0-9]+`)
	l := strings.SplitAfter(text, "\n")
	if l[len(l)-1] == "" {
		l = l[:len(l)-1]
	}
	for i, line := range l {
		body, ended := strings.CutSuffix(line, "\n")
		if !ended || !form.MatchString(body) || slices.ContainsFunc(digits.FindAllString(body, -1), func(d string) bool { return !isWord(d) }) {
			return i + 1, true
		}
		steps++
		if body == "hart" {
			harts, steps = harts+1, 0
		}
		if harts == 0 || harts > api.MaxHarts || steps > api.MaxOps {
			return i + 1, true
		}
	}
	return 0, len(l) == 0
}

// disturbed is a text with some of it taken away, told twice, or put in: bytes, or whole lines.
func disturbed(source *rand.Rand, text string) string {
	bytes := []string{" ", "\n", "r", "1", "0", "-", "+", "x", "= ", " aq", " rl", " by r2", "swap ", "add ", "\x00", "\xff", "00", "4294967296", "99999999999", "w", "\t", "\r"}
	whole := []string{"hart\n", "fence rw w\n", "if r3\n", "r4 = w\n", "x = 1\n", "r1 = swap x r2\n", "hart\nif r1\n"}
	lines := strings.SplitAfter(text, "\n")
	from := source.Intn(len(text) + 1)
	to := min(len(text), from+source.Intn(4))
	i, j := source.Intn(len(lines)), source.Intn(len(lines))
	switch source.Intn(5) {
	case 0:
		return text[:from] + text[to:]
	case 1:
		return text[:from] + text[from:to] + text[from:]
	case 2:
		return text[:from] + bytes[source.Intn(len(bytes))] + text[from:]
	case 3:
		lines[i], lines[j] = lines[j], lines[i]
	default:
		lines[i] = strings.Repeat(whole[source.Intn(len(whole))], 1+source.Intn(4)) + lines[i]
	}
	return strings.Join(lines, "")
}

// TestP9_4Disturbed holds Parse of any disturbed texts against lines told again; where it takes one, Print of it is the text.
func TestP9_4Disturbed(t *testing.T) {
	source := rand.New(rand.NewSource(96))
	form := form()
	taken, refused, blamed := 0, 0, 0
	for range 30000 {
		whole, err := litmus.Print(anyTest(source, api.MaxAccess))
		if err != api.OK {
			t.Fatal(err)
		}
		text := disturbed(source, whole)
		if source.Intn(2) == 0 {
			text = disturbed(source, text)
		}
		line, wrong := wrongLine(text, form)
		v, got, err := litmus.Parse(text)
		switch {
		case wrong && (err != api.ErrLine || got != line || len(v.Threads) != 0):
			t.Fatalf("%q: Parse is %v, %d, %v, want line %d", text, v, got, err, line)
		case wrong:
			refused++
		case err != api.OK:
			blamed++ // no line, but accesses or ways
			if err != api.ErrLine || got != 0 || len(v.Threads) != 0 {
				t.Fatalf("%q: Parse is %v, %d, %v", text, v, got, err)
			}
		default:
			taken++
			if again, err := litmus.Print(v); err != api.OK || got != 0 || again != text {
				t.Fatalf("%q: Print of Parse is %q, %v, the line %d", text, again, err, got)
			}
		}
	}
	if taken < 3000 || refused < 10000 || blamed < 50 {
		t.Errorf("met only %d that are taken, %d that have a wrong line, %d without one", taken, refused, blamed)
	}
}

// world is how far threads have come: one step of one of them behind the other, memory at once.
type world struct {
	places [api.MaxHarts]int
	regs   [api.MaxHarts][registers]uint32
	vars   [variables]uint32
}

// step does the next step of a thread.
func (o world) step(hart int, s api.Step) world {
	o.places[hart]++
	if !isAccess(s) {
		return o
	}
	stored, was := s.Num, o.vars[s.Var]
	if s.Data > 0 {
		stored = o.regs[hart][s.Data-1]
	}
	if s.Kind == api.StepAdd {
		stored += was
	}
	if loads(s) {
		o.regs[hart][s.Reg-1] = was
	}
	if stores(s) {
		o.vars[s.Var] = stored
	}
	return o
}

// oneByOne tells all that threads come to, in all orders of their steps.
func oneByOne(v api.Test) []api.Outcome {
	var l []api.Outcome
	seen := map[world]bool{}
	var goOn func(o world)
	goOn = func(o world) {
		if seen[o] {
			return
		}
		seen[o] = true
		ended := true
		for hart, steps := range v.Threads {
			if at := o.places[hart]; at < len(steps) {
				ended = false
				goOn(o.step(hart, steps[at]))
			}
		}
		if ended {
			l = append(l, api.Outcome{Regs: slices.Clone(o.regs[:len(v.Threads)]), Vars: o.vars})
		}
	}
	goOn(world{})
	return rising(l)
}

// fenced is a test with fence rw rw between each two accesses of a thread.
func fenced(v api.Test) api.Test {
	var threads [][]api.Step
	for _, steps := range v.Threads {
		var l []api.Step
		any := false
		for _, s := range steps {
			if isAccess(s) && any {
				l = append(l, fence(3, 3))
			}
			any = any || isAccess(s)
			l = append(l, s)
		}
		threads = append(threads, l)
	}
	return test(threads...)
}

// holdOrders holds what a test leaves against all orders of its steps, without and with fences between; it tells how many more there are without.
func holdOrders(t *testing.T, v api.Test) int {
	t.Helper()
	orders := oneByOne(v)
	got, err := litmus.Outcomes(v)
	if err != api.OK {
		t.Fatalf("%v: Outcomes is %v", v, err)
	}
	for _, o := range orders {
		if !slices.ContainsFunc(got, func(p api.Outcome) bool { return sameOutcome(o, p) }) {
			t.Fatalf("%v: %v, which comes of one step behind the other, is not among %v", v, o, got)
		}
	}
	kept, err := litmus.Outcomes(fenced(v))
	if err != api.OK || !slices.EqualFunc(kept, orders, sameOutcome) {
		t.Fatalf("%v: with fences between %v, %v, want %v", v, kept, err, orders)
	}
	return len(got) - len(orders)
}

// anyCrossing is a test of few threads that load and store few variables, each a value of its own, with little that keeps them in order.
func anyCrossing(source *rand.Rand) api.Test {
	threads := make([][]api.Step, 2+source.Intn(2))
	nums := uint32(0)
	for hart := range threads {
		for reg := range 2 + source.Intn(2) {
			s := api.Step{Kind: api.StepLoad + api.StepKind(source.Intn(7)/3), Var: source.Intn(2)}
			nums++
			if loads(s) {
				s.Reg = 1 + reg
			}
			if stores(s) {
				s.Num = nums
			}
			switch source.Intn(8) {
			case 0:
				threads[hart] = append(threads[hart], anyStep(source, 1))
			case 1:
				s.By = 1 + source.Intn(2)
			case 2:
				s.Rl = true
			}
			threads[hart] = append(threads[hart], s)
		}
	}
	return test(threads...)
}

// TestP9_4Orders has any tests.
func TestP9_4Orders(t *testing.T) {
	source := rand.New(rand.NewSource(97))
	for n := range 600 {
		accesses := 4 + n%3
		if n%60 == 0 {
			accesses = api.MaxAccess
		}
		v := anyTest(source, accesses)
		if litmus.Check(fenced(v)) == api.OK { // else it has too many steps
			holdOrders(t, v)
		}
	}
	more := 0
	for range 300 {
		v := anyCrossing(source)
		if litmus.Check(v) == api.OK && holdOrders(t, v) > 0 {
			more++
		}
	}
	if more < 40 {
		t.Errorf("met only %d that may come to more than by one step behind the other", more)
	}
}

// TestP9_4AllOfFour has all tests of two threads of two accesses each, of two variables.
func TestP9_4AllOfFour(t *testing.T) {
	first := []api.Step{load(1, x), load(1, y), store(x, 1), store(y, 1), swap(1, x, 1), add(1, y, 1)}
	second := []api.Step{load(2, x), load(2, y), store(x, 2), data(store(y, 0), 1), data(swap(2, x, 0), 1), add(2, y, 2)}
	more := 0
	for n := range 6 * 6 * 6 * 6 {
		if holdOrders(t, test(thread(first[n%6], second[n/6%6]), thread(first[n/36%6], second[n/216]))) > 0 {
			more++
		}
	}
	if more < 50 {
		t.Errorf("met only %d that may come to more than by one step behind the other", more)
	}
}

// TestP9_4Known has tests whose outcomes beyond all orders are counted.
func TestP9_4Known(t *testing.T) {
	for _, r := range []struct {
		text string
		want int
	}{
		{"hart\nx = 1\nr1 = y\nhart\ny = 1\nr1 = x\n", 1},
		{"hart\nr1 = x\ny = 1\nhart\nr1 = y\nx = 1\n", 1},
		{"hart\nx = 1\ny = 1\nhart\nr1 = y\nr2 = x\n", 1},
		{"hart\nx = 1\nhart\ny = 1\nhart\nr1 = x\nr2 = y\nhart\nr1 = y\nr2 = x\n", 1},
		{"hart\nx = 1\nhart\ny = 1\nhart\nr1 = x\nr2 = y by r1\nhart\nr1 = y\nr2 = x by r1\n", 0}, // stores come to all others at once
		{"hart\nr1 = x\ny = r1\nhart\nr1 = y\nx = r1\n", 0},
		{"hart\nr1 = add x 1\nhart\nr1 = add x 2\nhart\nr1 = add x 4\n", 0},
		{"hart\nr1 = x\nr2 = x\nhart\nx = 1\nx = 2\n", 0},
	} {
		if got := holdOrders(t, parsed(t, r.text)); got != r.want {
			t.Errorf("%q: %d beyond all orders, want %d", r.text, got, r.want)
		}
	}
}
