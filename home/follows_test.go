package home_test

import (
	"math/rand"
	"slices"
	"testing"

	"quadrille/api"
	"quadrille/home"
)

// retold is what the chapter says of one line, told again: who has it as a set of caches, whether alone, and all that is under way as the messages that came, of which the first is the one that began.
type retold struct {
	line   uint32
	has    [4]bool
	alone  bool
	under  []api.Msg // the one that is under way, then those that wait
	asked  []int     // whose answers are still to come
	told   bool
	memory [api.LineBytes]byte
}

func (r *retold) copy() *retold {
	other := *r
	other.under, other.asked = slices.Clone(r.under), slices.Clone(r.asked)
	return &other
}

// owner tells who has the line alone, or -1.
func (r *retold) owner() int {
	if !r.alone {
		return -1
	}
	return slices.Index(r.has[:], true)
}

// entry tells the entry that the line ought to have.
func (r *retold) entry() api.Entry {
	e := api.Entry{Owner: r.owner()}
	if !r.alone {
		e.Sharers = r.has
	}
	if len(r.under) > 0 {
		e.Busy, e.Asks, e.Kind, e.Waits, e.Told, e.Queue = true, r.under[0].From, r.under[0].Kind, len(r.asked), r.told, r.under[1:]
	}
	return e
}

// letter is a message from the home.
func (r *retold) letter(kind api.MsgKind, to int) api.Msg {
	m := api.Msg{Kind: kind, From: 4, To: to, Line: r.line}
	if isData(kind) {
		m.Bytes = r.memory
	}
	return m
}

// take takes a message; false, where it is stray.
func (r *retold) take(m api.Msg) ([]api.Msg, bool) {
	at := slices.Index(r.asked, m.From)
	switch {
	case m.Kind == api.MsgGetS || m.Kind == api.MsgGetM || m.Kind == api.MsgPut:
		r.under = append(r.under, m)
		if len(r.under) > 1 {
			return nil, true
		}
		return r.begin(), true
	case m.Kind == api.MsgBack && r.alone && at >= 0:
		r.memory = m.Bytes
		return r.answered(at), true
	case m.Kind == api.MsgAck && !r.alone && at >= 0:
		r.has[m.From] = false
		return r.answered(at), true
	case m.Kind == api.MsgDone && r.told && r.under[0].From == m.From:
		r.under, r.told = r.under[1:], false
		return r.begin(), true
	}
	return nil, false
}

// begin has the first ones begin, till one is under way.
func (r *retold) begin() []api.Msg {
	var sent []api.Msg
	for len(r.under) > 0 && r.under[0].Kind == api.MsgPut {
		m := r.under[0]
		r.under = r.under[1:]
		if r.owner() == m.From {
			r.memory, r.has, r.alone = m.Bytes, [4]bool{}, false
		}
		sent = append(sent, r.letter(api.MsgPutAck, m.From))
	}
	if len(r.under) == 0 {
		return sent
	}
	first := r.under[0]
	if r.owner() == first.From {
		r.has, r.alone = [4]bool{}, false
	}
	toOthers := api.MsgDrop
	switch {
	case r.alone && first.Kind == api.MsgGetS:
		toOthers = api.MsgShare
	case r.alone:
		toOthers = api.MsgYield
	case first.Kind == api.MsgGetS:
		return append(sent, r.tell()...)
	}
	for cache := range 4 {
		if r.has[cache] && cache != first.From {
			r.asked = append(r.asked, cache)
			sent = append(sent, r.letter(toOthers, cache))
		}
	}
	if len(r.asked) == 0 {
		return append(sent, r.tell()...)
	}
	return sent
}

// answered has one less asked; the last one is the one behind which who asks is told.
func (r *retold) answered(at int) []api.Msg {
	r.asked = slices.Delete(r.asked, at, at+1)
	if len(r.asked) > 0 {
		return nil
	}
	if r.alone {
		r.alone = false
		if r.under[0].Kind == api.MsgGetM {
			r.has = [4]bool{}
		}
	}
	return r.tell()
}

// tell tells who asks, whom no other one hinders any more.
func (r *retold) tell() []api.Msg {
	r.told = true
	who := r.under[0].From
	others := false
	for cache, has := range r.has {
		others = others || has && cache != who
	}
	r.has[who] = true
	switch {
	case r.under[0].Kind == api.MsgGetM:
		r.has = [4]bool{}
		r.has[who], r.alone = true, true
		return []api.Msg{r.letter(api.MsgDataM, who)}
	case others:
		return []api.Msg{r.letter(api.MsgDataS, who)}
	}
	r.alone = true
	return []api.Msg{r.letter(api.MsgDataE, who)}
}

// pair is a home, and what is told again of each of its lines.
type pair struct {
	h     *home.Home
	lines []*retold
}

// paired is a new home with so many lines.
func paired(t *testing.T, lines int) pair {
	t.Helper()
	p := pair{h: made(t, lines*api.LineBytes)}
	for line := range lines {
		p.lines = append(p.lines, &retold{line: uint32(line), memory: bytesOf(line)})
	}
	return p
}

func (p pair) copy() pair {
	other := pair{h: p.h.Copy()}
	for _, r := range p.lines {
		other.lines = append(other.lines, r.copy())
	}
	return other
}

// take takes a message, holds what comes of it against what is told again, and tells whether it was taken.
func (p pair) take(t *testing.T, m api.Msg) bool {
	t.Helper()
	r := p.lines[m.Line]
	was := r.entry()
	sent, err := p.h.Take(m)
	want, taken := r.take(m)
	wantErr := api.OK
	if !taken {
		wantErr = api.ErrStray
	}
	if !slices.Equal(sent, want) || err != wantErr {
		t.Fatalf("%s of %d, which is %q: %v, %v is sent, want %v, %v", textOf(m), m.Line, entryText(was), sent, err, want, wantErr)
	}
	p.hold(t, m)
	return taken
}

// hold holds the entry and the bytes of a message's line.
func (p pair) hold(t *testing.T, m api.Msg) {
	t.Helper()
	r := p.lines[m.Line]
	e, err := p.h.Entry(m.Line)
	if want := r.entry(); !sameEntry(e, want) || err != api.OK {
		t.Fatalf("behind %s line %d is %q, %v, want %q", textOf(m), m.Line, entryText(e), err, entryText(want))
	}
	if got, _ := p.h.Memory().Line(m.Line); got != r.memory {
		t.Fatalf("behind %s line %d has %v, want %v", textOf(m), m.Line, got, r.memory)
	}
	holdOneHasIt(t, e)
}

// holdOneHasIt holds that a line has an owner, or sharers, not both, and that one that is not busy has neither a request nor some that wait.
func holdOneHasIt(t *testing.T, e api.Entry) {
	t.Helper()
	shares := e.Sharers != [4]bool{}
	dropped := e.Busy && !e.Told && e.Kind == api.MsgGetM && e.Owner == -1
	switch {
	case e.Owner < -1 || e.Owner > 3:
		t.Fatalf("there is no cache %d", e.Owner)
	case e.Owner != -1 && shares && !dropped:
		t.Fatalf("it has an owner and sharers: %q", entryText(e))
	case e.Busy && e.Told && e.Kind == api.MsgGetM && e.Owner != e.Asks:
		t.Fatalf("who was told that it may write is not the owner: %q", entryText(e))
	case e.Busy && e.Told && e.Owner != e.Asks && !e.Sharers[e.Asks]:
		t.Fatalf("who was told has it not: %q", entryText(e))
	case e.Busy && e.Told == (e.Waits > 0):
		t.Fatalf("it is told and waits, or neither: %q", entryText(e))
	case !e.Busy && len(e.Queue) > 0:
		t.Fatalf("some wait for nothing: %q", entryText(e))
	}
}

// TestP12_3AllStates takes each message from each cache in each state to which any messages lead while at most two wait.
func TestP12_3AllStates(t *testing.T) {
	seen := map[string]bool{}
	next := []pair{paired(t, 1)}
	number := 0
	for len(next) > 0 {
		p := next[0]
		next = next[1:]
		for _, kind := range toHome() {
			for from := range 4 {
				number++
				m := message(kind, from, 0, 5000+number)
				other := p.copy()
				if !other.take(t, m) {
					p.hold(t, m)
				}
				e := other.lines[0].entry()
				if text := entryText(e); len(e.Queue) <= 2 && !seen[text] {
					seen[text] = true
					next = append(next, other)
				}
			}
		}
	}
	if len(seen) < 1000 {
		t.Errorf("there are %d states alone", len(seen))
	}
}

// likely is a message that may come in a line's state, or any one.
func likely(random *rand.Rand, r *retold, number int) api.Msg {
	from := random.Intn(4)
	kind := toHome()[random.Intn(6)]
	switch e := r.entry(); {
	case random.Intn(4) == 0 || len(e.Queue) > 8 && random.Intn(2) == 0: // any one
	case e.Told:
		kind, from = api.MsgDone, e.Asks
	case e.Busy && e.Owner != -1:
		kind, from = api.MsgBack, e.Owner
	case e.Busy:
		kind, from = api.MsgAck, r.asked[random.Intn(len(r.asked))]
	}
	return message(kind, from, r.line, number)
}

// TestP12_3Walks holds homes over long ways against what the chapter says, told again; copies are made on the way, and each goes on by itself.
func TestP12_3Walks(t *testing.T) {
	for _, lines := range []int{1, 2, 4, 16, 256} {
		random := rand.New(rand.NewSource(int64(lines)))
		pairs := []pair{paired(t, lines)}
		for number := range 6000 {
			p := pairs[random.Intn(len(pairs))]
			p.take(t, likely(random, p.lines[random.Intn(lines)], 10000+number))
			if random.Intn(60) == 0 {
				other := p.copy()
				if len(pairs) < 5 {
					pairs = append(pairs, other)
				} else {
					pairs[random.Intn(len(pairs))] = other
				}
			}
			if number%25 == 0 {
				for _, p := range pairs {
					p.holdAll(t)
				}
			}
		}
	}
}

// holdAll holds all that a home tells.
func (p pair) holdAll(t *testing.T) {
	t.Helper()
	now, idle := p.h.Memory(), true
	for line, r := range p.lines {
		e, err := p.h.Entry(uint32(line))
		if want := r.entry(); !sameEntry(e, want) || err != api.OK {
			t.Fatalf("line %d is %q, %v, want %q", line, entryText(e), err, entryText(want))
		}
		if got, _ := now.Line(uint32(line)); got != r.memory {
			t.Fatalf("line %d has %v, want %v", line, got, r.memory)
		}
		idle = idle && len(r.under) == 0
	}
	if p.h.Idle() != idle || p.h.Lines() != len(p.lines) {
		t.Fatalf("it has %d lines, idle %v, want %d, %v", p.h.Lines(), p.h.Idle(), len(p.lines), idle)
	}
}

// TestP12_3InOrder has many that ask for a line while it is busy: they begin in the order in which they came.
func TestP12_3InOrder(t *testing.T) {
	for seed := range int64(20) {
		random := rand.New(rand.NewSource(seed))
		p := paired(t, 1)
		r := p.lines[0]
		var came []api.Msg
		for number := range 60 {
			m := message(toHome()[random.Intn(3)], random.Intn(4), 0, number)
			came = append(came, m)
			p.take(t, m)
		}
		for step := 0; len(r.under) > 0; step++ {
			if step > 1000 {
				t.Fatal("it goes on no more")
			}
			e, _ := p.h.Entry(0)
			ahead := len(came) - len(e.Queue) - 1
			if ahead < 0 || !slices.Equal(e.Queue, came[ahead+1:]) || e.Kind != came[ahead].Kind || e.Asks != came[ahead].From {
				t.Fatalf("it is %q, of those that came", entryText(e))
			}
			switch {
			case e.Told:
				p.take(t, message(api.MsgDone, e.Asks, 0, 0))
			case e.Owner != -1:
				p.take(t, message(api.MsgBack, e.Owner, 0, 7000+step))
			default:
				p.take(t, message(api.MsgAck, r.asked[random.Intn(len(r.asked))], 0, 0))
			}
		}
		if e, _ := p.h.Entry(0); e.Busy || len(e.Queue) > 0 || !p.h.Idle() {
			t.Errorf("in the end it is %q", entryText(e))
		}
	}
}
