package cache_test

import (
	"math"
	"slices"
	"testing"

	"quadrille/api"
	"quadrille/cache"
)

// holdSent holds what is sent, and that it was not refused.
func holdSent(t *testing.T, what string, sent []api.Msg, err api.Errno, want ...api.Msg) {
	t.Helper()
	if !slices.Equal(sent, want) || err != api.OK {
		t.Errorf("%s: %v, %v is sent, want %v", what, sent, err, want)
	}
}

// holdRefused holds that a call is refused, and changes nothing.
func holdRefused(t *testing.T, c *cache.Cache, id int, call call, want api.Errno) {
	t.Helper()
	was := c.Copy()
	if sent, err := call.do(c, id); len(sent) > 0 || err != want {
		t.Errorf("%q, %s: %v, %v, want %v", cacheText(was), call.name, sent, err, want)
	}
	holdSame(t, c, was)
}

// signal is a message to the home without bytes.
func signal(kind api.MsgKind, id int, line uint32) api.Msg {
	return api.Msg{Kind: kind, From: id, To: api.Home, Line: line}
}

// bringing is a message to the home with a line's bytes.
func bringing(kind api.MsgKind, id int, l api.Line) api.Msg {
	return api.Msg{Kind: kind, From: id, To: api.Home, Line: l.Number, Bytes: l.Bytes}
}

// TestP13_1AskOfEachState asks for a line in each state, where nothing else stands against it.
func TestP13_1AskOfEachState(t *testing.T) {
	for id := range 4 {
		for _, number := range lineNumbers() {
			for _, pick := range picks() {
				c := made(t, id, 2, 1)
				sent, err := c.Ask(number, false, pick)
				holdSent(t, "to read", sent, err, signal(api.MsgGetS, id, number))
				c = made(t, id, 2, 1)
				sent, err = c.Ask(number, true, pick)
				holdSent(t, "to write", sent, err, signal(api.MsgGetM, id, number))
				c = having(t, id, 2, 1, line(number, api.StateS))
				holdRefused(t, c, id, read(number, pick), api.ErrThere)
				sent, err = c.Ask(number, true, pick)
				holdSent(t, "to write, there to read", sent, err, signal(api.MsgGetM, id, number))
				holdLine(t, c, line(number, api.StateS))
				for _, s := range []api.State{api.StateE, api.StateM} {
					c = having(t, id, 2, 1, line(number, s))
					holdRefused(t, c, id, read(number, pick), api.ErrThere)
					holdRefused(t, c, id, write(number, pick), api.ErrThere)
				}
			}
		}
	}
}

// TestP13_1AskOfAnyNumber asks for lines of which no address can tell: the chapter refuses none.
func TestP13_1AskOfAnyNumber(t *testing.T) {
	for _, number := range []uint32{1 << 28, 1<<28 + 1, 1 << 31, math.MaxUint32 - 1, math.MaxUint32} {
		for _, toWrite := range []bool{false, true} {
			c := having(t, 1, 1, 1, line(0, api.StateM))
			kind, comes := api.MsgGetS, api.MsgDataE
			if toWrite {
				kind, comes = api.MsgGetM, api.MsgDataM
			}
			sent, err := c.Ask(number, toWrite, 0)
			holdSent(t, "of any number", sent, err, bringing(api.MsgPut, 1, line(0, api.StateM)), signal(kind, 1, number))
			if asked, write, is := c.Asked(); asked != number || write != toWrite || !is {
				t.Errorf("asked for is %d, %v, %v, want %d", asked, write, is, number)
			}
			sent, err = c.Take(message(comes, 1, number, 5))
			holdSent(t, "it comes", sent, err, signal(api.MsgDone, 1, number))
			if got := c.Lines(); c.State(number) != api.StateE || len(got) != 1 || got[0].Number != number {
				t.Errorf("line %d is %d, there are %v", number, c.State(number), got)
			}
			if value, err := c.Read(number*16, 4); value != 0 || err != api.ErrMiss {
				t.Errorf("an address tells of line %d: %d, %v", number, value, err)
			}
		}
	}
}

// TestP13_1AskWhileOneIsAskedFor asks for lines in each state while one is asked for: that comes first.
func TestP13_1AskWhileOneIsAskedFor(t *testing.T) {
	for _, toWrite := range []bool{false, true} {
		for _, asked := range []uint32{5, 6} {
			c := having(t, 2, 2, 4, line(0, api.StateS), line(1, api.StateE), line(2, api.StateM))
			if _, err := c.Ask(asked, toWrite, 0); err != api.OK {
				t.Errorf("Ask is %v", err)
			}
			for _, number := range []uint32{0, 1, 2, 3, 5, 6, 7, math.MaxUint32} {
				holdRefused(t, c, 2, read(number, 0), api.ErrBusy)
				holdRefused(t, c, 2, write(number, 1), api.ErrBusy)
			}
		}
	}
	c := having(t, 2, 2, 4, line(0, api.StateS), line(1, api.StateE))
	c.Ask(0, true, 0) // it is there to read while it is asked for
	for _, number := range []uint32{0, 1, 2} {
		holdRefused(t, c, 2, read(number, 0), api.ErrBusy)
		holdRefused(t, c, 2, write(number, 0), api.ErrBusy)
	}
}

// TestP13_1AskWhileOneIsGiven asks while a line is given back: for that line, and for others in each state.
func TestP13_1AskWhileOneIsGiven(t *testing.T) {
	for _, s := range []api.State{api.StateE, api.StateM} {
		begun := having(t, 0, 2, 4, line(0, s), line(1, api.StateS), line(2, api.StateE), line(3, api.StateM))
		sent := begun.Evict(0)
		holdSent(t, "Evict", sent, api.OK, bringing(api.MsgPut, 0, line(0, s)))
		for _, pick := range picks() {
			holdRefused(t, begun, 0, read(0, pick), api.ErrBusy)
			holdRefused(t, begun, 0, write(0, pick), api.ErrBusy)
			for _, number := range []uint32{1, 2, 3} {
				holdRefused(t, begun, 0, read(number, pick), api.ErrThere)
			}
			for _, number := range []uint32{2, 3} {
				holdRefused(t, begun, 0, write(number, pick), api.ErrThere)
			}
			for _, number := range []uint32{4, 5, 16, 1<<28 - 1} {
				c := begun.Copy()
				sent, err := c.Ask(number, false, pick)
				holdSent(t, "another one to read", sent, err, signal(api.MsgGetS, 0, number))
				c = begun.Copy()
				sent, err = c.Ask(number, true, pick)
				holdSent(t, "another one to write", sent, err, signal(api.MsgGetM, 0, number))
				if given, is := c.Given(); given != line(0, s) || !is {
					t.Errorf("given back is %v, %v", given, is)
				}
			}
			c := begun.Copy()
			sent, err := c.Ask(1, true, pick)
			holdSent(t, "one that is S to write", sent, err, signal(api.MsgGetM, 0, 1))
		}
	}
}

// fullSet is two sets of three ways, the even one full: with lines of each state.
func fullSet() []api.Line {
	return []api.Line{line(4, api.StateS), line(1, api.StateE), line(0, api.StateE), line(6, api.StateM), line(3, api.StateS)}
}

// victimOf tells the line that a choice puts out of the full set.
func victimOf(pick int) api.Line {
	left := pick % 3
	if left < 0 {
		left += 3
	}
	return []api.Line{line(4, api.StateS), line(0, api.StateE), line(6, api.StateM)}[left]
}

// TestP13_1AskMakesRoom asks for a line of a full set, by each choice.
func TestP13_1AskMakesRoom(t *testing.T) {
	for id := range 4 {
		for _, pick := range picks() {
			for _, toWrite := range []bool{false, true} {
				c := having(t, id, 2, 3, fullSet()...)
				kind := api.MsgGetS
				if toWrite {
					kind = api.MsgGetM
				}
				victim := victimOf(pick)
				sent, err := c.Ask(8, toWrite, pick)
				given, is := c.Given()
				if victim.State == api.StateS {
					holdSent(t, "a victim that is S", sent, err, signal(kind, id, 8))
					if is || given != (api.Line{}) {
						t.Errorf("one that is S is given back: %v, %v", given, is)
					}
				} else {
					holdSent(t, "a victim that is alone", sent, err, bringing(api.MsgPut, id, victim), signal(kind, id, 8))
					if !is || given != victim {
						t.Errorf("given back is %v, %v, want %v", given, is, victim)
					}
				}
				var want []api.Line
				for _, l := range []api.Line{line(4, api.StateS), line(0, api.StateE), line(6, api.StateM), line(1, api.StateE), line(3, api.StateS)} {
					if l != victim {
						want = append(want, l)
					}
				}
				if got := c.Lines(); !slices.Equal(got, want) || c.State(victim.Number) != api.StateI {
					t.Errorf("pick %d: there are %v, want %v", pick, got, want)
				}
				if asked, write, is := c.Asked(); asked != 8 || write != toWrite || !is {
					t.Errorf("pick %d: asked for is %d, %v, %v", pick, asked, write, is)
				}
			}
		}
	}
}

// TestP13_1AskMakesRoomWhileOneIsGiven has a victim that can't be given back: nothing is done; one that is S goes.
func TestP13_1AskMakesRoomWhileOneIsGiven(t *testing.T) {
	for _, pick := range picks() {
		for _, toWrite := range []bool{false, true} {
			c := having(t, 1, 2, 3, fullSet()...)
			c.Evict(3) // line 1, of the other set
			if got := cacheText(c); got != "4 S, 0 E, 6 M, 3 S, gives 1 E" {
				t.Fatalf("it has %q", got)
			}
			ask, kind := read(8, pick), api.MsgGetS
			if toWrite {
				ask, kind = write(8, pick), api.MsgGetM
			}
			if victimOf(pick).State != api.StateS {
				holdRefused(t, c, 1, ask, api.ErrBusy)
				continue
			}
			sent, err := ask.do(c, 1)
			holdSent(t, "a victim that is S", sent, err, signal(kind, 1, 8))
			if given, is := c.Given(); given != line(1, api.StateE) || !is || c.State(4) != api.StateI {
				t.Errorf("pick %d: given back is %v, %v, there are %v", pick, given, is, c.Lines())
			}
		}
	}
}

// TestP13_1AskNeedsNoRoom has full sets in which the line stands, and sets with room beside full ones: nothing is put out.
func TestP13_1AskNeedsNoRoom(t *testing.T) {
	for _, pick := range picks() {
		c := having(t, 1, 2, 3, fullSet()...)
		sent, err := c.Ask(4, true, pick)
		holdSent(t, "it stands in the set", sent, err, signal(api.MsgGetM, 1, 4))
		if got := cacheText(c); got != "4 S, 0 E, 6 M, 1 E, 3 S, asks 4 to write" {
			t.Errorf("pick %d: it has %q", pick, got)
		}
		c = having(t, 1, 2, 3, fullSet()...)
		sent, err = c.Ask(5, false, pick)
		holdSent(t, "another set", sent, err, signal(api.MsgGetS, 1, 5))
		if got := cacheText(c); got != "4 S, 0 E, 6 M, 1 E, 3 S, asks 5" {
			t.Errorf("pick %d: it has %q", pick, got)
		}
		for _, ask := range []call{read(0, pick), write(0, pick), read(4, pick), read(6, pick), write(6, pick)} {
			holdRefused(t, having(t, 1, 2, 3, fullSet()...), 1, ask, api.ErrThere)
		}
	}
}

// TestP13_1AskBehindAll has one go on through asking, giving back and being told so.
func TestP13_1AskBehindAll(t *testing.T) {
	rowsOf(t, 1, 1,
		row{read(1, 0), "GetS 1", "asks 1"},
		row{read(1, 0), "busy", "asks 1"},
		row{write(1, 0), "busy", "asks 1"},
		row{take(api.MsgDataE, 1), "Done 1", "1 E"},
		row{write(1, 0), "there", "1 E"},
		row{store(1, 5), "", "1 M"},
		row{write(2, 5), "Put 1, GetM 2", "asks 2 to write, gives 1 M"},
		row{read(1, 0), "busy", "asks 2 to write, gives 1 M"},
		row{take(api.MsgDataM, 2), "Done 2", "2 E, gives 1 M"},
		row{read(1, 0), "busy", "2 E, gives 1 M"},
		row{read(3, 0), "busy", "2 E, gives 1 M"},
		row{read(2, 0), "there", "2 E, gives 1 M"},
		row{take(api.MsgPutAck, 1), "", "2 E"},
		row{read(1, 0), "Put 2, GetS 1", "asks 1, gives 2 E"},
		row{take(api.MsgPutAck, 2), "", "asks 1"},
		row{take(api.MsgDataS, 1), "Done 1", "1 S"},
		row{write(1, 0), "GetM 1", "1 S, asks 1 to write"},
		row{read(1, 0), "busy", "1 S, asks 1 to write"},
		row{take(api.MsgDrop, 1), "Ack 1", "asks 1 to write"},
		row{take(api.MsgDataM, 1), "Done 1", "1 E"},
		row{take(api.MsgShare, 1), "Back 1", "1 S"},
		row{read(2, 0), "GetS 2", "asks 2"},
	)
}
