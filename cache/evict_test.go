package cache_test

import (
	"slices"
	"testing"

	"quadrille/api"
	"quadrille/cache"
)

// scattered is lines in four sets of two ways, handed in as they came, and told as layer 10 has them.
func scattered() (came, order []api.Line) {
	came = []api.Line{line(7, api.StateE), line(4, api.StateM), line(2, api.StateS), line(0, api.StateS), line(3, api.StateM), line(6, api.StateE)}
	order = []api.Line{came[1], came[3], came[2], came[5], came[0], came[4]}
	return came, order
}

// chosenOf tells the line that a choice says of some.
func chosenOf(lines []api.Line, pick int) api.Line {
	left := pick % len(lines)
	if left < 0 {
		left += len(lines)
	}
	return lines[left]
}

func without(lines []api.Line, l api.Line) []api.Line {
	return slices.DeleteFunc(slices.Clone(lines), func(other api.Line) bool { return other == l })
}

// TestP13_1Evict puts out one of all lines, by each choice.
func TestP13_1Evict(t *testing.T) {
	came, order := scattered()
	for id := range 4 {
		for _, pick := range append(picks(), 4, 5, 6, -4, -5, -6, -7) {
			c := having(t, id, 4, 2, came...)
			victim := chosenOf(order, pick)
			sent := c.Evict(pick)
			given, is := c.Given()
			if victim.State == api.StateS {
				holdSent(t, "one that is S", sent, api.OK)
				if is || given != (api.Line{}) {
					t.Errorf("pick %d: given back is %v, %v", pick, given, is)
				}
			} else {
				holdSent(t, "one that is alone", sent, api.OK, bringing(api.MsgPut, id, victim))
				if !is || given != victim {
					t.Errorf("pick %d: given back is %v, %v, want %v", pick, given, is, victim)
				}
			}
			if got := c.Lines(); !slices.Equal(got, without(order, victim)) {
				t.Errorf("pick %d: there are %v, want %v", pick, got, without(order, victim))
			}
		}
	}
}

// TestP13_1EvictWhileOneIsGiven has a line given back: one that is S goes, any other one stays.
func TestP13_1EvictWhileOneIsGiven(t *testing.T) {
	came, order := scattered()
	for _, first := range []int{0, 3, 4, 5} {
		rest := without(order, order[first])
		for _, pick := range picks() {
			c := having(t, 3, 4, 2, came...)
			c.Evict(first)
			was := c.Copy()
			sent := c.Evict(pick)
			holdSent(t, "a second one", sent, api.OK)
			victim := chosenOf(rest, pick)
			if victim.State != api.StateS {
				holdSame(t, c, was)
				continue
			}
			if got := c.Lines(); !slices.Equal(got, without(rest, victim)) {
				t.Errorf("pick %d: there are %v, want %v", pick, got, without(rest, victim))
			}
			if given, is := c.Given(); given != order[first] || !is {
				t.Errorf("pick %d: given back is %v, %v", pick, given, is)
			}
		}
	}
}

// TestP13_1EvictOfNone has no line there: nothing is done, whatever is asked for or given back.
func TestP13_1EvictOfNone(t *testing.T) {
	asking, giving := made(t, 0, 1, 1), having(t, 0, 1, 1, line(3, api.StateM))
	asking.Ask(3, true, 0)
	giving.Evict(0)
	for _, c := range []*cache.Cache{made(t, 0, 1, 1), asking, giving} {
		was := c.Copy()
		for _, pick := range picks() {
			holdSent(t, "Evict of none", c.Evict(pick), api.OK)
			holdSame(t, c, was)
		}
	}
}

// TestP13_1EvictWhileOneIsAskedFor has lines put out while one is asked for; also that one, where it is there to read.
func TestP13_1EvictWhileOneIsAskedFor(t *testing.T) {
	rowsOf(t, 1, 2,
		row{read(1, 0), "GetS 1", "asks 1"},
		row{take(api.MsgDataS, 1), "Done 1", "1 S"},
		row{read(2, 0), "GetS 2", "1 S, asks 2"},
		row{take(api.MsgDataE, 2), "Done 2", "1 S, 2 E"},
		row{write(1, 0), "GetM 1", "1 S, 2 E, asks 1 to write"},
		row{evict(0), "", "2 E, asks 1 to write"},
		row{evict(0), "Put 2", "asks 1 to write, gives 2 E"},
		row{evict(0), "", "asks 1 to write, gives 2 E"},
		row{take(api.MsgDataM, 1), "Done 1", "1 E, gives 2 E"},
		row{evict(0), "", "1 E, gives 2 E"},
		row{store(1, 9), "", "1 M, gives 2 E"},
		row{evict(0), "", "1 M, gives 2 E"},
		row{take(api.MsgPutAck, 2), "", "1 M"},
		row{evict(0), "Put 1", "gives 1 M"},
		row{take(api.MsgPutAck, 1), "", ""},
	)
}

// TestP13_1EvictOrder has lines put out in layer 10's order, set by set, and not as they came.
func TestP13_1EvictOrder(t *testing.T) {
	rowsOf(t, 2, 2,
		row{read(1, 0), "GetS 1", "asks 1"},
		row{take(api.MsgDataS, 1), "Done 1", "1 S"},
		row{read(6, 0), "GetS 6", "1 S, asks 6"},
		row{take(api.MsgDataS, 6), "Done 6", "6 S, 1 S"},
		row{read(2, 0), "GetS 2", "6 S, 1 S, asks 2"},
		row{take(api.MsgDataS, 2), "Done 2", "6 S, 2 S, 1 S"},
		row{evict(-1), "", "6 S, 2 S"},
		row{evict(2), "", "2 S"},
		row{evict(-7), "", ""},
	)
}
