package cache_test

import (
	"math"
	"slices"
	"testing"

	"quadrille/api"
	"quadrille/cache"
)

// TestP13_2State has the state of a line behind each call that may change it.
func TestP13_2State(t *testing.T) {
	c := made(t, 1, 2, 1)
	for i, w := range []struct {
		call
		want api.State
	}{
		{read(3, 0), api.StateI},
		{take(api.MsgDataS, 3), api.StateS},
		{write(3, 0), api.StateS},
		{take(api.MsgDataM, 3), api.StateE},
		{store(3, 1), api.StateM},
		{store(3, 2), api.StateM},
		{take(api.MsgShare, 3), api.StateS},
		{take(api.MsgDrop, 3), api.StateI},
		{read(3, 0), api.StateI},
		{take(api.MsgDataE, 3), api.StateE},
		{take(api.MsgYield, 3), api.StateI},
		{write(3, 0), api.StateI},
		{take(api.MsgDataM, 3), api.StateE},
		{store(3, 3), api.StateM},
		{evict(0), api.StateI},
		{take(api.MsgShare, 3), api.StateI},
		{take(api.MsgPutAck, 3), api.StateI},
	} {
		if _, err := w.do(c, 1); err != api.OK {
			t.Errorf("call %d, %s, is %v", i, w.name, err)
		}
		for _, number := range []uint32{0, 1, 2, 3, 4, 5, 3 + 1<<28, 1<<28 - 1, math.MaxUint32} {
			want := api.StateI
			if number == 3 {
				want = w.want
			}
			if got := c.State(number); got != want {
				t.Errorf("behind call %d, %s, line %d is %d, want %d", i, w.name, number, got, want)
			}
		}
	}
}

// TestP13_2Lines has all lines of many sets, with their bytes, in layer 10's order.
func TestP13_2Lines(t *testing.T) {
	for _, sets := range []int{1, 2, 4, 8, 64} {
		c := made(t, 3, sets, 8)
		bySet := make([][]api.Line, sets)
		for i, number := range []uint32{9, 200, 0, 65, 3, 1<<28 - 1, 64, 7} {
			l := line(number, states()[i%3])
			bring(t, c, 3, l.Number, l.State)
			set := number % uint32(sets)
			bySet[set] = append(bySet[set], l)
			if got, want := c.Lines(), slices.Concat(bySet...); !slices.Equal(got, want) {
				t.Errorf("of %d sets there are %v, want %v", sets, got, want)
			}
		}
	}
}

// TestP13_2Asked has what is asked for, of each number, to read and to write, till it comes.
func TestP13_2Asked(t *testing.T) {
	for _, number := range []uint32{0, 1, 3, 1<<28 - 1, math.MaxUint32} {
		for _, toWrite := range []bool{false, true} {
			c := made(t, 0, 4, 1)
			hold := func(wantLine uint32, wantWrite, wantIs bool) {
				t.Helper()
				if line, write, is := c.Asked(); line != wantLine || write != wantWrite || is != wantIs {
					t.Errorf("line %d, to write %v: asked for is %d, %v, %v", number, toWrite, line, write, is)
				}
			}
			hold(0, false, false)
			c.Ask(number, toWrite, 0)
			hold(number, toWrite, true)
			c.Ask(number+1, !toWrite, 0) // busy
			hold(number, toWrite, true)
			c.Take(message(api.MsgDrop, 0, number, 0))
			hold(number, toWrite, true)
			kind := api.MsgDataS
			if toWrite {
				kind = api.MsgDataM
			}
			c.Take(message(kind, 0, number, 0))
			hold(0, false, false)
			c.Ask(number, false, 0) // there
			hold(0, false, false)
		}
	}
}

// TestP13_2Given has what is given back, as it was, till the home has it.
func TestP13_2Given(t *testing.T) {
	for _, number := range lineNumbers() {
		for _, s := range []api.State{api.StateE, api.StateM} {
			c := having(t, 0, 1, 1, line(number, s))
			hold := func(want api.Line, wantIs bool) {
				t.Helper()
				if l, is := c.Given(); l != want || is != wantIs {
					t.Errorf("line %d: given back is %v, %v, want %v", number, l, is, want)
				}
			}
			hold(api.Line{}, false)
			c.Ask(number^2, true, 0)
			hold(line(number, s), true)
			c.Take(message(api.MsgDataM, 0, number^2, 7))
			c.Write(number^2*16, 4, 5)
			hold(line(number, s), true)
			c.Take(message(api.MsgShare, 0, number, 0))
			hold(line(number, s), true)
			c.Take(message(api.MsgYield, 0, number, 0))
			c.Take(message(api.MsgDrop, 0, number, 0))
			hold(line(number, s), true)
			c.Take(message(api.MsgPutAck, 0, number, 0))
			hold(api.Line{}, false)
		}
	}
	c := having(t, 0, 1, 1, line(3, api.StateS))
	c.Evict(0)
	if l, is := c.Given(); l != (api.Line{}) || is {
		t.Errorf("a line that is S is given back: %v, %v", l, is)
	}
}

// busied is a cache with lines in each state, one that is asked for and one that is given back.
func busied(t *testing.T) *cache.Cache {
	t.Helper()
	c := having(t, 2, 2, 3, line(5, api.StateM), line(2, api.StateS), line(3, api.StateE), line(4, api.StateM))
	c.Evict(2)
	c.Ask(2, true, 0)
	if got := cacheText(c); got != "2 S, 4 M, 3 E, asks 2 to write, gives 5 M" {
		t.Fatalf("it has %q", got)
	}
	return c
}

// changes is calls of a busied cache, each list of which changes it.
func changes() [][]call {
	return [][]call{
		{store(3, 70)},
		{store(4, 71)},
		{evict(0)},
		{take(api.MsgDrop, 2)},
		{take(api.MsgDataM, 2)},
		{take(api.MsgPutAck, 5)},
		{take(api.MsgShare, 3)},
		{take(api.MsgYield, 4)},
		{take(api.MsgYield, 3), take(api.MsgShare, 4), take(api.MsgDrop, 4)},
		{take(api.MsgPutAck, 5), evict(1)},
		{take(api.MsgDataM, 2), store(2, 72), read(7, 0)},
		{take(api.MsgDataM, 2), take(api.MsgPutAck, 5), write(5, 0), take(api.MsgDataM, 5), store(5, 73)},
		{take(api.MsgDataM, 2), take(api.MsgPutAck, 5), evict(0), read(6, 0), take(api.MsgDataS, 6), read(8, 0)},
	}
}

// doAll does calls of which none is refused.
func doAll(t *testing.T, c *cache.Cache, calls []call) {
	t.Helper()
	for _, w := range calls {
		if _, err := w.do(c, 2); err != api.OK {
			t.Errorf("%s is %v", w.name, err)
		}
	}
}

// TestP13_2CopyGoesOnApart has one of two go on while the other stays, both ways.
func TestP13_2CopyGoesOnApart(t *testing.T) {
	for _, change := range changes() {
		for _, copyGoesOn := range []bool{false, true} {
			goesOn := busied(t)
			stays := goesOn.Copy()
			if stays == nil || stays == goesOn {
				t.Fatalf("Copy is %v", stays)
			}
			holdSame(t, stays, goesOn)
			if copyGoesOn {
				goesOn, stays = stays, goesOn
			}
			doAll(t, goesOn, change)
			if sameTold(toldBy(goesOn), toldBy(busied(t))) {
				t.Errorf("%s and what follows changes nothing", change[0].name)
			}
			holdSame(t, stays, busied(t))
			after := toldBy(goesOn)
			for _, other := range changes() {
				for _, w := range other {
					w.do(stays, 2)
				}
			}
			if got := toldBy(goesOn); !sameTold(got, after) {
				t.Errorf("it tells %v, want %v", got, after)
			}
		}
	}
}

// TestP13_2CopyIsTheSame has a cache and its copy do the same, of each hart, so that its number and its sets are the same, too.
func TestP13_2CopyIsTheSame(t *testing.T) {
	for id := range 4 {
		for _, shape := range [][2]int{{1, 1}, {2, 1}, {1, 2}, {4, 3}} {
			c := having(t, id, shape[0], shape[1], line(0, api.StateM))
			other := c.Copy()
			for number := uint32(1); number < 14; number++ {
				for _, w := range []call{write(number, int(number)), take(api.MsgDataM, number), store(number, number), take(api.MsgPutAck, 0), take(api.MsgPutAck, number-2), evict(-int(number))} {
					sent, err := w.do(c, id)
					sentToo, errToo := w.do(other, id)
					if !slices.Equal(sent, sentToo) || err != errToo {
						t.Errorf("%s: %v, %v, of the copy %v, %v", w.name, sent, err, sentToo, errToo)
					}
					holdSame(t, other, c)
				}
			}
		}
	}
}

// TestP13_2CopyOfAll copies caches in which line 3 stands in each way.
func TestP13_2CopyOfAll(t *testing.T) {
	for _, s := range standings() {
		for _, o := range companies() {
			if s.fits(o) {
				c := s.standsIn(t, 1, o)
				holdSame(t, c.Copy(), c)
				holdSame(t, c.Copy().Copy(), s.standsIn(t, 1, o))
			}
		}
	}
}

// TestP13_2LinesApart writes into lines that were told, and holds those that were told against what comes behind.
func TestP13_2LinesApart(t *testing.T) {
	c := busied(t)
	kept, written := c.Lines(), c.Lines()
	want := slices.Clone(kept)
	for i := range written {
		written[i] = api.Line{Number: 9, State: api.StateM}
	}
	_ = append(written[:1], line(8, api.StateE))
	room := kept[len(kept):cap(kept)]
	for i := range room {
		room[i] = line(8, api.StateE)
	}
	holdSame(t, c, busied(t))
	for _, change := range changes() {
		goesOn := c.Copy()
		first := goesOn.Lines()
		doAll(t, goesOn, change)
		if !slices.Equal(first, want) || !slices.Equal(kept, want) {
			t.Errorf("%s and what follows changes lines that were told: %v, want %v", change[0].name, first, want)
		}
	}
}

// TestP13_2GivenApart writes into a line given back that was told, and holds one against what comes behind.
func TestP13_2GivenApart(t *testing.T) {
	c := busied(t)
	kept, _ := c.Given()
	written, _ := c.Given()
	written.Bytes[0], written.State, written.Number = 99, api.StateI, 8
	holdSame(t, c, busied(t))
	doAll(t, c, []call{take(api.MsgDataM, 2), take(api.MsgPutAck, 5), evict(-1)})
	if kept != line(5, api.StateM) {
		t.Errorf("what is done changes what was told: %v", kept)
	}
	if now, is := c.Given(); now != line(3, api.StateE) || !is {
		t.Errorf("given back is %v, %v", now, is)
	}
}

// TestP13_1SentApart writes into messages that were told, and holds messages that were told against what comes behind.
func TestP13_1SentApart(t *testing.T) {
	for _, w := range []struct {
		call
		behind []call
	}{
		{write(8, 1), []call{take(api.MsgDataM, 8), store(8, 6), take(api.MsgShare, 4), take(api.MsgPutAck, 4)}},
		{evict(1), []call{take(api.MsgYield, 4), take(api.MsgPutAck, 4), write(4, 0), take(api.MsgDataM, 4), store(4, 8)}},
		{take(api.MsgShare, 4), []call{write(4, 0), take(api.MsgDataM, 4), store(4, 9)}},
		{take(api.MsgYield, 3), []call{write(3, 0), take(api.MsgDataM, 3), store(3, 10)}},
		{take(api.MsgDrop, 2), []call{write(2, 0), take(api.MsgDataM, 2), store(2, 11)}},
	} {
		c := having(t, 2, 2, 3, line(2, api.StateS), line(4, api.StateM), line(6, api.StateE), line(3, api.StateE))
		other := c.Copy()
		sent, _ := w.do(c, 2)
		want := slices.Clone(sent)
		if len(sent) == 0 {
			t.Errorf("%s sends nothing", w.name)
		}
		doAll(t, c, w.behind)
		if !slices.Equal(sent, want) {
			t.Errorf("%s: what is done behind it changes what was told: %v, want %v", w.name, sent, want)
		}
		sent, _ = w.do(other, 2)
		was := other.Copy()
		room := sent[:cap(sent)]
		for i := range room {
			room[i] = api.Msg{Kind: api.MsgPut, From: 1, Line: 77, Bytes: bytesOf(88)}
		}
		holdSame(t, other, was)
	}
}
