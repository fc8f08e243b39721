package litmus

import (
	"strconv"
	"strings"

	"quadrille/api"
)

// stray is what reading leaves by, at a line that may not stand there.
type stray struct{}

// must leaves, unless it is so.
func must(so bool) {
	if !so {
		panic(stray{})
	}
}

// reading is a test as far as its text is read: the number of the last line, and what is left of its words.
type reading struct {
	api.Test
	line  int
	words []string
}

// reader reads a line whose first word is taken.
type reader func(r *reading, first string)

// readers tells who reads the lines of which first word.
func readers() map[string]reader {
	l := map[string]reader{wordHart: (*reading).thread, wordFence: (*reading).fence, wordIf: (*reading).branch}
	for register := range registers {
		l[registerName(register+1)] = (*reading).load
	}
	for variable := range variables {
		l[variableName(variable)] = (*reading).store
	}
	return l
}

// read reads a text; if a line may not stand where it does, it tells the number of the first such one, and false.
func read(text string) (t api.Test, line int, ok bool) {
	var r reading
	defer func() {
		if _, gaveUp := recover().(stray); gaveUp {
			t, line, ok = api.Test{}, r.line, false
		}
	}()
	l := readers()
	for whole := range strings.Lines(text) {
		r.line++
		words, ended := strings.CutSuffix(whole, lineEnd)
		must(ended)
		r.words = strings.Split(words, between)
		first := r.next()
		reads, there := l[first]
		must(there)
		reads(&r, first)
		must(len(r.words) == 0)
	}
	return r.Test, 0, true
}

// next takes the next word.
func (r *reading) next() string {
	must(len(r.words) > 0)
	word := r.words[0]
	r.words = r.words[1:]
	return word
}

// took takes the next word, if it is that one.
func (r *reading) took(word string) bool {
	there := len(r.words) > 0 && r.words[0] == word
	if there {
		r.next()
	}
	return there
}

func (r *reading) thread(string) {
	must(len(r.Threads) < api.MaxHarts)
	r.Threads = append(r.Threads, nil)
}

func (r *reading) fence(string) {
	pred := setOf(r.next())
	succ := setOf(r.next())
	r.step(api.Step{Kind: api.StepFence, Pred: pred, Succ: succ})
}

func (r *reading) branch(string) {
	r.step(api.Step{Kind: api.StepIf, Reg: registerOf(r.next())})
}

// load reads what loads; if it stores, too, that is told ahead of the variable.
func (r *reading) load(first string) {
	must(r.took(wordIs))
	s := api.Step{Kind: api.StepLoad, Reg: registerOf(first)}
	switch {
	case r.took(wordSwap):
		s.Kind = api.StepSwap
	case r.took(wordAdd):
		s.Kind = api.StepAdd
	}
	s.Var = variableOf(r.next())
	r.access(s)
}

func (r *reading) store(first string) {
	must(r.took(wordIs))
	r.access(api.Step{Kind: api.StepStore, Var: variableOf(first)})
}

// access reads an access from behind its variable on.
func (r *reading) access(s api.Step) {
	if stores(s.Kind) {
		s.Data, s.Num = dataOf(r.next())
	}
	if r.took(wordBy) {
		s.By = registerOf(r.next())
	}
	s.Aq = r.took(wordAq)
	s.Rl = r.took(wordRl)
	r.step(s)
}

// step lays a step behind those of the last thread.
func (r *reading) step(s api.Step) {
	last := len(r.Threads) - 1
	must(last >= 0 && len(r.Threads[last]) < api.MaxOps)
	r.Threads[last] = append(r.Threads[last], s)
}

// dataOf tells the register or the number of a word.
func dataOf(word string) (register int, number uint32) {
	if strings.HasPrefix(word, "r") {
		return registerOf(word), 0
	}
	n, err := strconv.ParseUint(word, 10, 32)
	must(err == nil && numberName(uint32(n)) == word)
	return 0, uint32(n)
}

func registerOf(word string) int { return named(word, registers, registerName) }

func setOf(word string) int { return named(word, bothSets, setName) }

func variableOf(word string) int {
	return named(word, len(variables), func(n int) string { return variableName(n - 1) }) - 1
}

// named tells which one of the numbers from 1 to the last one has the name.
func named(word string, last int, name func(n int) string) int {
	for n := range last {
		if name(n+1) == word {
			return n + 1
		}
	}
	panic(stray{})
}
