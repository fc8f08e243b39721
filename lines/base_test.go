package lines_test

import (
	"math"
	"slices"
	"testing"

	"quadrille/api"
	"quadrille/lines"
)

// most is the largest number of a line.
const most = uint32(math.MaxUint32)

// states is each state that a line of a cache may have.
func states() []api.State { return []api.State{api.StateS, api.StateE, api.StateM} }

// noStates is numbers that no line of a cache has as its state.
func noStates() []api.State {
	return []api.State{api.StateI, -1, -2, -3, 4, 5, 6, 7, 8, 255, 257, 258, 259, 1 << 32, 1<<32 + 1, math.MaxInt, math.MinInt, math.MinInt + 1}
}

// line is one whose bytes are those of no other number or state here.
func line(number uint32, state api.State) api.Line {
	l := api.Line{Number: number, State: state}
	for i := range l.Bytes {
		l.Bytes[i] = byte(number>>(i%4*8)) + byte(i*17) + byte(state)*101
	}
	return l
}

// linesOf is lines of some numbers, of the state S.
func linesOf(numbers ...uint32) []api.Line {
	var l []api.Line
	for _, number := range numbers {
		l = append(l, line(number, api.StateS))
	}
	return l
}

// made is a cache into which some lines are put.
func made(t *testing.T, sets, ways int, put ...api.Line) *lines.Lines {
	t.Helper()
	c, err := lines.New(sets, ways)
	if c == nil || err != api.OK {
		t.Fatalf("New(%d, %d) is %v, %v", sets, ways, c, err)
	}
	for _, l := range put {
		if err := c.Put(l); err != api.OK {
			t.Fatalf("of %d sets of %d: Put(%v) is %v", sets, ways, l, err)
		}
	}
	return c
}

// having is a cache into which lines of some numbers are put, of the state S.
func having(t *testing.T, sets, ways int, numbers ...uint32) *lines.Lines {
	t.Helper()
	return made(t, sets, ways, linesOf(numbers...)...)
}

func all(c *lines.Lines) []api.Line { return slices.Collect(c.All()) }

// hold holds all that a cache has against the lines that it ought to have, in their order.
func hold(t *testing.T, c *lines.Lines, want ...api.Line) {
	t.Helper()
	if got := all(c); !slices.Equal(got, want) {
		t.Errorf("it has %v, want %v", got, want)
	}
	if c.Len() != len(want) {
		t.Errorf("it has %d lines, want %d", c.Len(), len(want))
	}
	for _, l := range want {
		if got, is := c.Find(l.Number); got != l || !is {
			t.Errorf("Find(%d) is %v, %v, want %v", l.Number, got, is, l)
		}
	}
}

// holdNone holds that a cache has no lines of some numbers.
func holdNone(t *testing.T, c *lines.Lines, numbers ...uint32) {
	t.Helper()
	for _, number := range numbers {
		if got, is := c.Find(number); got != (api.Line{}) || is {
			t.Errorf("Find(%d) is %v, %v, want none", number, got, is)
		}
	}
}

// holdVictim holds which line is to make room.
func holdVictim(t *testing.T, c *lines.Lines, number uint32, pick int, want api.Line) {
	t.Helper()
	if got, is := c.Victim(number, pick); got != want || !is {
		t.Errorf("Victim(%d, %d) is %v, %v, want %v", number, pick, got, is, want)
	}
}

// holdNoVictim holds that none is.
func holdNoVictim(t *testing.T, c *lines.Lines, number uint32, picks ...int) {
	t.Helper()
	for _, pick := range picks {
		if got, is := c.Victim(number, pick); got != (api.Line{}) || is {
			t.Errorf("Victim(%d, %d) is %v, %v, want none", number, pick, got, is)
		}
	}
}

// none is each way in which there may be no cache.
func none() []*lines.Lines {
	refused, _ := lines.New(3, 1)
	return []*lines.Lines{nil, {}, new(lines.Lines), refused}
}

// TestExamples has the chapter's examples.
func TestExamples(t *testing.T) {
	for _, r := range [][2]int{{3, 1}, {2, 0}} {
		if c, err := lines.New(r[0], r[1]); c != nil || err != api.ErrArg {
			t.Errorf("New(%d, %d) is %v, %v", r[0], r[1], c, err)
		}
	}
	four, six, eight := line(4, api.StateS), line(6, api.StateM), line(8, api.StateE)
	c := made(t, 2, 2, four, six)
	if err := c.Put(eight); err != api.ErrSet {
		t.Error("Put(8 E) is", err)
	}
	holdVictim(t, c, 8, 1, six)
	holdVictim(t, c, 8, -1, six)
	holdNoVictim(t, c, 6, 0)
	holdNoVictim(t, c, 5, 0)
	if !c.Drop(4) {
		t.Error("there is no 4 to drop")
	}
	if err := c.Put(eight); err != api.OK {
		t.Error("Put(8 E) behind Drop(4) is", err)
	}
	hold(t, c, six, eight)
}
