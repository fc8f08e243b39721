package cache_test

import (
	"math"
	"slices"
	"strings"
	"testing"

	"quadrille/api"
	"quadrille/cache"
)

// standing is how line 3 stands: there in a state or not, asked for ("asks 3", "asks 3 to write") or not, given back as it was in a state or not.
type standing struct {
	there api.State
	asks  string
	gives api.State
}

// standings is all ways in which a line may stand.
func standings() []standing {
	return []standing{
		{},
		{there: api.StateS},
		{there: api.StateE},
		{there: api.StateM},
		{asks: "asks 3"},
		{asks: "asks 3 to write"},
		{there: api.StateS, asks: "asks 3 to write"},
		{gives: api.StateE},
		{gives: api.StateM},
	}
}

// company is what stands beside line 3: lines there, another one that is asked for, another one that is given back.
type company struct {
	there []api.Line
	asks  string
	gives api.State
}

func companies() []company {
	there := []api.Line{line(2, api.StateM), line(5, api.StateS), line(1, api.StateE)}
	return []company{
		{},
		{there: there},
		{there: there, asks: "asks 6"},
		{asks: "asks 6 to write"},
		{there: there, gives: api.StateM},
		{there: there[:1], asks: "asks 6", gives: api.StateE},
	}
}

// fits tells whether a line can stand so in that company: one line at most is asked for, and one is given back.
func (s standing) fits(o company) bool {
	return (s.asks == "" || o.asks == "") && (s.gives == api.StateI || o.gives == api.StateI)
}

// standsIn is a cache, of one set, in which line 3 stands so in that company. What it asks for is asked for last.
func (s standing) standsIn(t *testing.T, id int, o company) *cache.Cache {
	t.Helper()
	var lines []api.Line
	if s.gives != api.StateI {
		lines = append(lines, line(3, s.gives))
	}
	if o.gives != api.StateI {
		lines = append(lines, line(7, o.gives))
	}
	c := having(t, id, 1, 6, lines...)
	c.Evict(0)
	for _, l := range append(slices.Clone(o.there), line(3, s.there)) {
		if l.State != api.StateI {
			bring(t, c, id, l.Number, l.State)
		}
	}
	for _, asks := range []string{s.asks, o.asks} {
		if asks != "" {
			number := uint32(asks[5] - '0')
			c.Ask(number, strings.HasSuffix(asks, "write"), 0)
		}
	}
	if got := cacheText(c); got != s.text(o) {
		t.Fatalf("it has %q, want %q", got, s.text(o))
	}
	return c
}

// text tells what a cache has in which line 3 stands so in that company.
func (s standing) text(o company) string {
	var has []string
	for _, l := range append(slices.Clone(o.there), line(3, s.there)) {
		if l.State != api.StateI {
			has = append(has, lineText(l))
		}
	}
	for _, asks := range []string{s.asks, o.asks} {
		if asks != "" {
			has = append(has, asks)
		}
	}
	for _, given := range []api.Line{line(3, s.gives), line(7, o.gives)} {
		if given.State != api.StateI {
			has = append(has, "gives "+lineText(given))
		}
	}
	return strings.Join(has, ", ")
}

// outcome is what a message to line 3 brings about, where it is taken: what is sent (MsgNone: nothing), and how the line stands behind it.
type outcome struct {
	sent   api.MsgKind
	behind standing
}

// outcomes has, of each way in which the line may stand, those kinds of messages that are taken.
func outcomes(s standing) map[api.MsgKind]outcome {
	dropped := outcome{api.MsgAck, standing{asks: s.asks, gives: s.gives}}
	switch {
	case s.gives != api.StateI:
		back := outcome{api.MsgBack, s}
		return map[api.MsgKind]outcome{api.MsgShare: back, api.MsgYield: back, api.MsgDrop: dropped, api.MsgPutAck: {api.MsgNone, standing{}}}
	case s.asks == "asks 3":
		return map[api.MsgKind]outcome{api.MsgDrop: dropped, api.MsgDataS: {api.MsgDone, standing{there: api.StateS}}, api.MsgDataE: {api.MsgDone, standing{there: api.StateE}}}
	case s.asks == "asks 3 to write":
		return map[api.MsgKind]outcome{api.MsgDrop: dropped, api.MsgDataM: {api.MsgDone, standing{there: api.StateE}}}
	case s.there == api.StateE || s.there == api.StateM:
		return map[api.MsgKind]outcome{api.MsgShare: {api.MsgBack, standing{there: api.StateS}}, api.MsgYield: {api.MsgBack, standing{}}}
	}
	return map[api.MsgKind]outcome{api.MsgDrop: dropped}
}

// TestP13_1Take has each kind of message to a line that stands in each way, in each company.
func TestP13_1Take(t *testing.T) {
	for id := range 4 {
		for _, s := range standings() {
			for _, o := range companies() {
				if !s.fits(o) {
					continue
				}
				for _, kind := range toCache() {
					c := s.standsIn(t, id, o)
					if want, is := outcomes(s)[kind]; is {
						takeOne(t, c, id, kind, s, want)
						if got := cacheText(c); got != want.behind.text(o) {
							t.Errorf("%q, %s: behind it %q, want %q", s.text(o), names()[kind], got, want.behind.text(o))
						}
					} else {
						holdRefused(t, c, id, take(kind, 3), api.ErrStray)
					}
					for _, l := range o.there {
						holdLine(t, c, l)
					}
				}
			}
		}
	}
}

// takeOne takes a message to line 3, and holds what is sent, and the line's bytes behind it.
func takeOne(t *testing.T, c *cache.Cache, id int, kind api.MsgKind, s standing, want outcome) {
	t.Helper()
	m := message(kind, id, 3, 4000)
	had := line(3, max(s.there, s.gives))
	var letters []api.Msg
	switch want.sent {
	case api.MsgNone:
	case api.MsgBack:
		letters = []api.Msg{bringing(api.MsgBack, id, had)}
	default:
		letters = []api.Msg{signal(want.sent, id, 3)}
	}
	sent, err := c.Take(m)
	holdSent(t, names()[kind], sent, err, letters...)
	if isData(kind) {
		holdLine(t, c, api.Line{Number: 3, State: want.behind.there, Bytes: m.Bytes})
	} else if want.behind.there != api.StateI {
		holdLine(t, c, api.Line{Number: 3, State: want.behind.there, Bytes: had.Bytes})
	}
	if given, is := c.Given(); want.behind.gives != api.StateI && (given != had || !is) {
		t.Errorf("given back is %v, %v, want %v", given, is, had)
	}
}

// TestP13_1TakeOfOthers has messages to lines about which nothing is known, while line 3 stands in each way: but that they are dropped, none may come.
func TestP13_1TakeOfOthers(t *testing.T) {
	for _, s := range standings() {
		c := s.standsIn(t, 2, company{})
		for _, number := range []uint32{0, 1, 2, 4, 11, 3 + 1<<8, 3 + 1<<16, 3 + 1<<28, 1<<28 - 1, math.MaxUint32} {
			for _, kind := range toCache() {
				if kind != api.MsgDrop {
					holdRefused(t, c, 2, take(kind, number), api.ErrStray)
					continue
				}
				was := c.Copy()
				sent, err := c.Take(message(kind, 2, number, 0))
				holdSent(t, "MsgDrop of one that is not there", sent, err, signal(api.MsgAck, 2, number))
				holdSame(t, c, was)
			}
		}
	}
}

// TestP13_1TakeErrArg has messages that may not be, or are not to that cache: that comes ahead of whether they may come now.
func TestP13_1TakeErrArg(t *testing.T) {
	for id := range 4 {
		for _, s := range standings() {
			c := s.standsIn(t, id, company{})
			for _, m := range mayNotBe(id) {
				for _, number := range []uint32{3, 4, math.MaxUint32} {
					m.Line = number
					holdRefused(t, c, id, call{"Take", func(c *cache.Cache, _ int) ([]api.Msg, api.Errno) { return c.Take(m) }}, api.ErrArg)
				}
			}
		}
	}
}

// TestP13_1TakeTwice has each that was taken come a second time.
func TestP13_1TakeTwice(t *testing.T) {
	for _, s := range standings() {
		for kind, want := range outcomes(s) {
			c := s.standsIn(t, 1, company{})
			c.Take(message(kind, 1, 3, 3))
			_, again := outcomes(want.behind)[kind]
			if !again {
				holdRefused(t, c, 1, take(kind, 3), api.ErrStray)
			} else if _, err := c.Take(message(kind, 1, 3, 3)); err != api.OK {
				t.Errorf("%q, %s a second time: %v", s.text(company{}), names()[kind], err)
			}
		}
	}
}

// TestP13_1TakeBytes has lines come with bytes that were other ones before, noughts among them.
func TestP13_1TakeBytes(t *testing.T) {
	for _, b := range [][api.LineBytes]byte{{}, {15: 255}, {0: 1}, bytesOf(3), bytesOf(99)} {
		for _, kind := range []api.MsgKind{api.MsgDataS, api.MsgDataE, api.MsgDataM} {
			c := having(t, 0, 1, 2, line(4, api.StateM))
			s := api.StateE
			switch kind {
			case api.MsgDataS:
				s = api.StateS
			case api.MsgDataM:
				bring(t, c, 0, 3, api.StateS)
			}
			c.Ask(3, kind == api.MsgDataM, 0)
			sent, err := c.Take(api.Msg{Kind: kind, From: api.Home, To: 0, Line: 3, Bytes: b})
			holdSent(t, "it comes", sent, err, signal(api.MsgDone, 0, 3))
			if want := []api.Line{line(4, api.StateM), {Number: 3, State: s, Bytes: b}}; !slices.Equal(c.Lines(), want) {
				t.Errorf("there are %v, want %v", c.Lines(), want)
			}
		}
	}
}

// TestP13_1BackBytes has the home ask for bytes as they are then: what was written since they came is in them, and what was told before.
func TestP13_1BackBytes(t *testing.T) {
	for _, kind := range []api.MsgKind{api.MsgShare, api.MsgYield} {
		c := having(t, 2, 1, 1, line(3, api.StateE))
		c.Write(48, 4, 0x01020304)
		c.Write(63, 1, 0xee)
		want := line(3, api.StateM)
		want.Bytes = bytesOf(3)
		copy(want.Bytes[:4], []byte{4, 3, 2, 1})
		want.Bytes[15] = 0xee
		given := c.Copy()
		sent, err := c.Take(message(kind, 2, 3, 0))
		holdSent(t, "of one that is there", sent, err, bringing(api.MsgBack, 2, want))
		holdSent(t, "Evict", given.Evict(0), api.OK, bringing(api.MsgPut, 2, want))
		for range 3 {
			sent, err = given.Take(message(kind, 2, 3, 0))
			holdSent(t, "of one that is given back", sent, err, bringing(api.MsgBack, 2, want))
		}
		if l, is := given.Given(); l != want || !is {
			t.Errorf("given back is %v, %v, want %v", l, is, want)
		}
	}
}

// TestP13_1DroppedWhileAskedFor has a line of a full set dropped while it is asked for to write: it finds room there when it comes.
func TestP13_1DroppedWhileAskedFor(t *testing.T) {
	rowsOf(t, 1, 2,
		row{read(1, 0), "GetS 1", "asks 1"},
		row{take(api.MsgDrop, 1), "Ack 1", "asks 1"},
		row{take(api.MsgDataS, 1), "Done 1", "1 S"},
		row{write(2, 0), "GetM 2", "1 S, asks 2 to write"},
		row{take(api.MsgDataM, 2), "Done 2", "1 S, 2 E"},
		row{write(1, 1), "GetM 1", "1 S, 2 E, asks 1 to write"},
		row{take(api.MsgDrop, 1), "Ack 1", "2 E, asks 1 to write"},
		row{take(api.MsgDrop, 1), "Ack 1", "2 E, asks 1 to write"},
		row{take(api.MsgYield, 1), "stray", "2 E, asks 1 to write"},
		row{take(api.MsgShare, 2), "Back 2", "2 S, asks 1 to write"},
		row{take(api.MsgDataM, 1), "Done 1", "2 S, 1 E"},
		row{take(api.MsgDrop, 1), "stray", "2 S, 1 E"},
		row{write(3, -1), "Put 1, GetM 3", "2 S, asks 3 to write, gives 1 E"},
		row{take(api.MsgShare, 1), "Back 1", "2 S, asks 3 to write, gives 1 E"},
		row{take(api.MsgDrop, 1), "Ack 1", "2 S, asks 3 to write, gives 1 E"},
		row{take(api.MsgDrop, 2), "Ack 2", "asks 3 to write, gives 1 E"},
		row{take(api.MsgPutAck, 2), "stray", "asks 3 to write, gives 1 E"},
		row{take(api.MsgPutAck, 3), "stray", "asks 3 to write, gives 1 E"},
		row{take(api.MsgPutAck, 1), "", "asks 3 to write"},
		row{take(api.MsgPutAck, 1), "stray", "asks 3 to write"},
		row{take(api.MsgYield, 1), "stray", "asks 3 to write"},
	)
}
