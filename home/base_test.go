package home_test

import (
	"math"
	"slices"
	"strconv"
	"strings"
	"testing"

	"quadrille/api"
	"quadrille/home"
	"quadrille/image"
)

// names has what each kind is called in the rows of these tests, by its number.
func names() []string {
	return []string{"None", "GetS", "GetM", "Put", "Share", "Yield", "Drop", "PutAck", "DataS", "DataE", "DataM", "Back", "Ack", "Done"}
}

// toHome is the kinds that go to the home.
func toHome() []api.MsgKind {
	return []api.MsgKind{api.MsgGetS, api.MsgGetM, api.MsgPut, api.MsgBack, api.MsgAck, api.MsgDone}
}

// toCache is the kinds that go to a cache.
func toCache() []api.MsgKind {
	return []api.MsgKind{api.MsgShare, api.MsgYield, api.MsgDrop, api.MsgPutAck, api.MsgDataS, api.MsgDataE, api.MsgDataM}
}

func bringsBytes(kind api.MsgKind) bool { return kind == api.MsgPut || kind == api.MsgBack }

func isData(kind api.MsgKind) bool {
	return kind == api.MsgDataS || kind == api.MsgDataE || kind == api.MsgDataM
}

// bytesOf is a line's bytes; those of unlike numbers are unlike, and none are noughts.
func bytesOf(number int) [api.LineBytes]byte {
	var b [api.LineBytes]byte
	for i := range b {
		b[i] = byte(number>>(8*(i%4))) + byte(31*i+7)
	}
	return b
}

// message is one to the home; its bytes, if its kind has some, are those of the number.
func message(kind api.MsgKind, from int, line uint32, number int) api.Msg {
	m := api.Msg{Kind: kind, From: from, To: api.Home, Line: line}
	if bringsBytes(kind) {
		m.Bytes = bytesOf(number)
	}
	return m
}

// memory is one of so many bytes, each line with those of its number.
func memory(t *testing.T, size int) *image.Image {
	t.Helper()
	m, err := image.New(size)
	if err != api.OK {
		t.Fatalf("a memory of %d is %v", size, err)
	}
	for line := range size / api.LineBytes {
		m.SetLine(uint32(line), bytesOf(line))
	}
	return m
}

// made is a home over such a memory.
func made(t *testing.T, size int) *home.Home {
	t.Helper()
	h, err := home.New(memory(t, size))
	if h == nil || err != api.OK {
		t.Fatalf("New of %d is %v, %v", size, h, err)
	}
	return h
}

// none is each way in which there may be no home.
func none() []*home.Home {
	refused, _ := home.New(nil)
	return []*home.Home{nil, {}, new(home.Home), refused}
}

// noLines is numbers that no line of so many has.
func noLines(lines int) []uint32 {
	return []uint32{uint32(lines), uint32(lines) + 1, 256, 257, 4096, 1 << 16, 1<<28 - 1, 1 << 28, 1 << 31, 1<<31 + 1, math.MaxUint32 - 1, math.MaxUint32}
}

// textOf tells a message by whom it is from, or to, and its kind.
func textOf(m api.Msg) string {
	cache := m.From
	if m.From == api.Home {
		cache = m.To
	}
	return strconv.Itoa(cache) + " " + names()[m.Kind]
}

// textsOf tells messages so.
func textsOf(all []api.Msg) string {
	var texts []string
	for _, m := range all {
		texts = append(texts, textOf(m))
	}
	return strings.Join(texts, ", ")
}

// entryText tells all that an entry has, in the words of the rows.
func entryText(e api.Entry) string {
	var has []string
	if e.Owner != -1 {
		has = append(has, "owner "+strconv.Itoa(e.Owner))
	}
	for cache, shares := range e.Sharers {
		if shares {
			has = append(has, "sharer "+strconv.Itoa(cache))
		}
	}
	if has == nil {
		has = []string{"nobody"}
	}
	text := strings.Join(has, ", ")
	switch state := strconv.Itoa(e.Asks) + " " + names()[e.Kind]; {
	case e.Busy && e.Told && e.Waits == 0:
		text += "; " + state + " told"
	case e.Busy && !e.Told:
		text += "; " + state + " waits " + strconv.Itoa(e.Waits)
	case e.Busy || e.Told || e.Waits != 0 || e.Asks != 0 || e.Kind != api.MsgNone:
		text += "; what may not be: " + state + " " + strconv.Itoa(e.Waits)
	}
	if len(e.Queue) > 0 {
		text += "; then " + textsOf(e.Queue)
	}
	return text
}

// row is a message, what is sent by it ("stray" where it is refused), and the line's entry behind it; keeps, where its bytes, or those of one that waited, are memory's then.
type row struct {
	in, out, entry string
	keeps          int
}

// run is a home to which the rows' messages of one line come; each one that brings bytes brings others.
type run struct {
	home  *home.Home
	line  uint32
	came  int
	bytes [api.LineBytes]byte
}

// begun is a run of a new home with four lines.
func begun(t *testing.T, line uint32) *run {
	t.Helper()
	return &run{made(t, 64), line, 0, bytesOf(int(line))}
}

// read tells the message of a text.
func (r *run) read(t *testing.T, text string) api.Msg {
	t.Helper()
	from, name, _ := strings.Cut(text, " ")
	cache, err := strconv.Atoi(from)
	kind := slices.Index(names(), name)
	if err != nil || kind < 1 {
		t.Fatalf("%q is no message", text)
	}
	return message(api.MsgKind(kind), cache, r.line, 1000+r.came)
}

// step takes a row's message, and holds the row against what comes of it.
func (r *run) step(t *testing.T, w row) {
	t.Helper()
	r.came++
	m := r.read(t, w.in)
	sent, err := r.home.Take(m)
	switch {
	case w.out == "stray" && (err != api.ErrStray || len(sent) > 0):
		t.Errorf("message %d, %s: sent is %v, %v, want ErrStray", r.came, w.in, sent, err)
	case w.out != "stray" && (err != api.OK || textsOf(sent) != w.out):
		t.Errorf("message %d, %s: sent is %q, %v, want %q", r.came, w.in, textsOf(sent), err, w.out)
	}
	if w.keeps > 0 {
		r.bytes = bytesOf(1000 + w.keeps)
	}
	r.holdSent(t, sent)
	r.hold(t, w)
}

// holdSent holds that messages are from the home, of the line, and with memory's bytes, where they have some.
func (r *run) holdSent(t *testing.T, sent []api.Msg) {
	t.Helper()
	for _, m := range sent {
		want := api.Msg{Kind: m.Kind, From: api.Home, To: m.To, Line: r.line}
		if isData(m.Kind) {
			want.Bytes = r.bytes
		}
		if m != want {
			t.Errorf("message %d: %v is sent, want %v", r.came, m, want)
		}
	}
}

// hold holds the line's entry and bytes, and that all other lines are as at first.
func (r *run) hold(t *testing.T, w row) {
	t.Helper()
	now := r.home.Memory()
	for line := range uint32(r.home.Lines()) {
		want, wantBytes := "nobody", bytesOf(int(line))
		if line == r.line {
			want, wantBytes = w.entry, r.bytes
		}
		e, err := r.home.Entry(line)
		if got := entryText(e); got != want || err != api.OK {
			t.Errorf("behind message %d, %s: line %d is %q, %v, want %q", r.came, w.in, line, got, err, want)
		}
		if got, _ := now.Line(line); got != wantBytes {
			t.Errorf("behind message %d, %s: line %d has %v, want %v", r.came, w.in, line, got, wantBytes)
		}
	}
	if busy := strings.Contains(w.entry, ";"); r.home.Idle() == busy {
		t.Errorf("behind message %d, %s: Idle is %v", r.came, w.in, !busy)
	}
}

// steps takes some rows, of each line in a home of its own.
func steps(t *testing.T, rows ...row) {
	t.Helper()
	for line := range uint32(4) {
		r := begun(t, line)
		for _, w := range rows {
			r.step(t, w)
		}
	}
}

// TestExamples has the chapter's examples.
func TestExamples(t *testing.T) {
	steps(t,
		row{"0 GetS", "0 DataE", "owner 0; 0 GetS told", 0},
		row{"0 Done", "", "owner 0", 0},
		row{"1 GetS", "0 Share", "owner 0; 1 GetS waits 1", 0},
		row{"0 Back", "1 DataS", "sharer 0, sharer 1; 1 GetS told", 4},
		row{"1 Done", "", "sharer 0, sharer 1", 0},
		row{"2 GetM", "0 Drop, 1 Drop", "sharer 0, sharer 1; 2 GetM waits 2", 0},
		row{"0 Ack", "", "sharer 1; 2 GetM waits 1", 0},
		row{"1 Back", "stray", "sharer 1; 2 GetM waits 1", 0},
		row{"1 Ack", "2 DataM", "owner 2; 2 GetM told", 0},
		row{"1 Back", "stray", "owner 2; 2 GetM told", 0},
	)
}
