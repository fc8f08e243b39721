package litmus

import (
	"strconv"
	"strings"

	"quadrille/api"
)

// The words of lines, but names and numbers.
const (
	wordHart  = "hart"
	wordFence = "fence"
	wordIf    = "if"
	wordIs    = "="
	wordSwap  = "swap"
	wordAdd   = "add"
	wordBy    = "by"
	wordAq    = "aq"
	wordRl    = "rl"
)

const (
	variables = "xyzw" // the names of all, each by its number
	between   = " "    // what is between a line's words
	lineEnd   = "\n"
)

// textOf tells the text of a test that may be.
func textOf(t api.Test) string {
	var text strings.Builder
	for _, steps := range t.Threads {
		text.WriteString(wordHart + lineEnd)
		for _, s := range steps {
			text.WriteString(strings.Join(wordsOf(s), between) + lineEnd)
		}
	}
	return text.String()
}

// wordsOf tells the words of a step's line.
func wordsOf(s api.Step) []string {
	switch s.Kind {
	case api.StepLoad:
		return marked(s, registerName(s.Reg), wordIs, variableName(s.Var))
	case api.StepStore:
		return marked(s, variableName(s.Var), wordIs, dataName(s))
	case api.StepSwap:
		return marked(s, registerName(s.Reg), wordIs, wordSwap, variableName(s.Var), dataName(s))
	case api.StepAdd:
		return marked(s, registerName(s.Reg), wordIs, wordAdd, variableName(s.Var), dataName(s))
	case api.StepFence:
		return []string{wordFence, setName(s.Pred), setName(s.Succ)}
	}
	return []string{wordIf, registerName(s.Reg)}
}

// marked tells an access's words, and those that may stand behind them.
func marked(s api.Step, words ...string) []string {
	if s.By != 0 {
		words = append(words, wordBy, registerName(s.By))
	}
	if s.Aq {
		words = append(words, wordAq)
	}
	if s.Rl {
		words = append(words, wordRl)
	}
	return words
}

// dataName tells what an access stores, or adds.
func dataName(s api.Step) string {
	if s.Data != 0 {
		return registerName(s.Data)
	}
	return numberName(s.Num)
}

func numberName(n uint32) string { return strconv.FormatUint(uint64(n), 10) }

func registerName(register int) string { return "r" + strconv.Itoa(register) }

func variableName(variable int) string { return variables[variable : variable+1] }

func setName(set int) string { return [...]string{1: "w", 2: "r", bothSets: "rw"}[set] }
