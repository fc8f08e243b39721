package cache_test

import (
	"math"
	"slices"
	"strconv"
	"strings"
	"testing"

	"quadrille/api"
	"quadrille/cache"
)

// names has what each kind is called in the rows of these tests, by its number.
func names() []string {
	return []string{"None", "GetS", "GetM", "Put", "Share", "Yield", "Drop", "PutAck", "DataS", "DataE", "DataM", "Back", "Ack", "Done"}
}

// toCache is the kinds that go to a cache.
func toCache() []api.MsgKind {
	return []api.MsgKind{api.MsgShare, api.MsgYield, api.MsgDrop, api.MsgPutAck, api.MsgDataS, api.MsgDataE, api.MsgDataM}
}

// toHome is the kinds that go to the home.
func toHome() []api.MsgKind {
	return []api.MsgKind{api.MsgGetS, api.MsgGetM, api.MsgPut, api.MsgBack, api.MsgAck, api.MsgDone}
}

func isData(kind api.MsgKind) bool {
	return kind == api.MsgDataS || kind == api.MsgDataE || kind == api.MsgDataM
}

// states is each state that a line may be there in.
func states() []api.State { return []api.State{api.StateS, api.StateE, api.StateM} }

// picks is choices about nought, and far from it.
func picks() []int {
	return []int{0, 1, 2, 3, 7, 8, 9, -1, -2, -3, -8, -9, 1 << 32, math.MaxInt, math.MinInt, math.MinInt + 1}
}

// bytesOf is a line's bytes; those of unlike numbers are unlike, and none are noughts.
func bytesOf(number int) [api.LineBytes]byte {
	var b [api.LineBytes]byte
	for i := range b {
		b[i] = byte(number>>(8*(i%4))) + byte(31*i+7)
	}
	return b
}

// message is one from the home; its bytes, if its kind has some, are those of the number.
func message(kind api.MsgKind, to int, line uint32, number int) api.Msg {
	m := api.Msg{Kind: kind, From: api.Home, To: to, Line: line}
	if isData(kind) {
		m.Bytes = bytesOf(number)
	}
	return m
}

// made is a cache of a hart.
func made(t *testing.T, id, sets, ways int) *cache.Cache {
	t.Helper()
	c, err := cache.New(id, sets, ways)
	if c == nil || err != api.OK {
		t.Fatalf("New(%d, %d, %d) is %v, %v", id, sets, ways, c, err)
	}
	return c
}

// none is each way in which there may be no cache.
func none() []*cache.Cache {
	refused, _ := cache.New(4, 1, 1)
	return []*cache.Cache{nil, {}, new(cache.Cache), refused}
}

// textOf tells a message by its kind and its line.
func textOf(m api.Msg) string {
	return names()[m.Kind] + " " + strconv.FormatUint(uint64(m.Line), 10)
}

// textsOf tells messages so.
func textsOf(all []api.Msg) string {
	var texts []string
	for _, m := range all {
		texts = append(texts, textOf(m))
	}
	return strings.Join(texts, ", ")
}

// lineText tells a line by its number and its state.
func lineText(l api.Line) string {
	return strconv.FormatUint(uint64(l.Number), 10) + " " + []string{"I", "S", "E", "M"}[l.State]
}

// cacheText tells all that a cache has but bytes, in the words of the rows.
func cacheText(c *cache.Cache) string {
	var has []string
	for _, l := range c.Lines() {
		has = append(has, lineText(l))
	}
	if line, write, is := c.Asked(); is {
		text := "asks " + strconv.FormatUint(uint64(line), 10)
		if write {
			text += " to write"
		}
		has = append(has, text)
	}
	if l, is := c.Given(); is {
		has = append(has, "gives "+lineText(l))
	}
	return strings.Join(has, ", ")
}

// told is all that a cache tells of itself.
type told struct {
	lines     []api.Line
	asked     uint32
	write, is bool
	given     api.Line
	gives     bool
}

func toldBy(c *cache.Cache) told {
	var all told
	all.lines = c.Lines()
	all.asked, all.write, all.is = c.Asked()
	all.given, all.gives = c.Given()
	return all
}

func sameTold(a, b told) bool {
	return slices.Equal(a.lines, b.lines) && a.asked == b.asked && a.write == b.write && a.is == b.is && a.given == b.given && a.gives == b.gives
}

// holdSame holds that two caches tell the same.
func holdSame(t *testing.T, c, want *cache.Cache) {
	t.Helper()
	got, is := toldBy(c), toldBy(want)
	if !sameTold(got, is) {
		t.Errorf("it tells %v, want %v", got, is)
	}
	for line := range uint32(8) {
		if c.State(line) != want.State(line) {
			t.Errorf("line %d is %v, want %v", line, c.State(line), want.State(line))
		}
	}
}

// call is one of a cache, which sends messages or is refused.
type call struct {
	name string
	do   func(c *cache.Cache, id int) ([]api.Msg, api.Errno)
}

func lineName(name string, line uint32) string {
	return name + " " + strconv.FormatUint(uint64(line), 10)
}

// read and write ask for a line.
func read(line uint32, pick int) call {
	return call{lineName("Ask", line), func(c *cache.Cache, _ int) ([]api.Msg, api.Errno) { return c.Ask(line, false, pick) }}
}

func write(line uint32, pick int) call {
	return call{lineName("Ask to write", line), func(c *cache.Cache, _ int) ([]api.Msg, api.Errno) { return c.Ask(line, true, pick) }}
}

func evict(pick int) call {
	return call{"Evict " + strconv.Itoa(pick), func(c *cache.Cache, _ int) ([]api.Msg, api.Errno) { return c.Evict(pick), api.OK }}
}

// take takes a message; the bytes of one that has some are those of the line's number.
func take(kind api.MsgKind, line uint32) call {
	return call{lineName("Take "+names()[kind], line), func(c *cache.Cache, id int) ([]api.Msg, api.Errno) {
		return c.Take(message(kind, id, line, int(line)))
	}}
}

// store writes a value into a line's second word.
func store(line, value uint32) call {
	return call{lineName("Write", line), func(c *cache.Cache, _ int) ([]api.Msg, api.Errno) {
		return nil, c.Write(line*16+4, 4, value)
	}}
}

// row is a call, what is sent by it (or the word for why it is refused), and what the cache has behind it.
type row struct {
	call
	out, behind string
}

// errorText tells an error by the word of the rows.
func errorText(err api.Errno) string {
	switch err {
	case api.ErrBusy:
		return "busy"
	case api.ErrThere:
		return "there"
	case api.ErrMiss:
		return "miss"
	case api.ErrStray:
		return "stray"
	}
	return err.Error()
}

// follow has a cache follow rows.
func follow(t *testing.T, c *cache.Cache, id int, rows ...row) {
	t.Helper()
	for at, w := range rows {
		sent, err := w.do(c, id)
		out := textsOf(sent)
		if err != api.OK {
			out += errorText(err)
		}
		if behind := cacheText(c); out != w.out || behind != w.behind {
			t.Errorf("row %d, %s: %q, behind it %q, want %q, %q", at, w.name, out, behind, w.out, w.behind)
		}
		for _, m := range sent {
			if m.From != id || m.To != api.Home {
				t.Errorf("row %d, %s: %v is sent by cache %d", at, w.name, m, id)
			}
		}
	}
}

// rowsOf has a new cache of each hart follow rows, and tells the last one.
func rowsOf(t *testing.T, sets, ways int, rows ...row) *cache.Cache {
	t.Helper()
	var c *cache.Cache
	for id := range 4 {
		c = made(t, id, sets, ways)
		follow(t, c, id, rows...)
	}
	return c
}

// bring has a line come into a cache that asks for none; where it is M, its second word was written.
func bring(t *testing.T, c *cache.Cache, id int, line uint32, s api.State) {
	t.Helper()
	kind := api.MsgDataE
	if s == api.StateS {
		kind = api.MsgDataS
	}
	_, asked := c.Ask(line, false, 0)
	_, came := c.Take(message(kind, id, line, int(line)))
	wrote := api.OK
	if s == api.StateM {
		wrote = c.Write(line*16+4, 4, valueOf(line))
	}
	if asked != api.OK || came != api.OK || wrote != api.OK || c.State(line) != s {
		t.Fatalf("line %d comes in the state %d: %v, %v, %v, and is %d", line, s, asked, came, wrote, c.State(line))
	}
}

// valueOf is what is written into a line that is M.
func valueOf(line uint32) uint32 { return 0xa1b2c3d4 + line }

// broughtBytes is what a line has that was brought so.
func broughtBytes(line uint32, s api.State) [api.LineBytes]byte {
	b := bytesOf(int(line))
	if s == api.StateM {
		for i := range 4 {
			b[4+i] = byte(valueOf(line) >> (8 * i))
		}
	}
	return b
}

// having is a cache into which lines were brought, "I" ones not.
func having(t *testing.T, id, sets, ways int, lines ...api.Line) *cache.Cache {
	t.Helper()
	c := made(t, id, sets, ways)
	for _, l := range lines {
		if l.State != api.StateI {
			bring(t, c, id, l.Number, l.State)
		}
	}
	return c
}

// line is one of a state, with the bytes that it has where it was brought.
func line(number uint32, s api.State) api.Line {
	return api.Line{Number: number, State: s, Bytes: broughtBytes(number, s)}
}

// TestExamples has the chapter's examples.
func TestExamples(t *testing.T) {
	for id := range 4 {
		c := made(t, id, 2, 1)
		follow(t, c, id,
			row{read(3, 0), "GetS 3", "asks 3"},
			row{read(4, 0), "busy", "asks 3"},
			row{take(api.MsgDataE, 3), "Done 3", "3 E"},
		)
		b := bytesOf(3)
		value := uint32(b[0]) | uint32(b[1])<<8 | uint32(b[2])<<16 | uint32(b[3])<<24
		if got, err := c.Read(48, 4); got != value || err != api.OK {
			t.Errorf("Read is %d, %v, want %d", got, err, value)
		}
		if err := c.Write(48, 4, 7); err != api.OK || c.State(3) != api.StateM {
			t.Errorf("Write is %v, the line is %d", err, c.State(3))
		}
		b[0], b[1], b[2], b[3] = 7, 0, 0, 0
		sent, err := c.Take(message(api.MsgShare, id, 3, 0))
		want := api.Msg{Kind: api.MsgBack, From: id, To: api.Home, Line: 3, Bytes: b}
		if !slices.Equal(sent, []api.Msg{want}) || err != api.OK || c.State(3) != api.StateS {
			t.Errorf("MsgShare: %v, %v is sent, the line is %d, want %v", sent, err, c.State(3), want)
		}
		if err := c.Write(48, 4, 8); err != api.ErrMiss {
			t.Errorf("Write into a line that is S is %v", err)
		}
		follow(t, c, id, row{write(3, 0), "GetM 3", "3 S, asks 3 to write"})
		if got, err := c.Read(48, 4); got != 7 || err != api.OK {
			t.Errorf("Read is %d, %v, want 7", got, err)
		}
	}
}
