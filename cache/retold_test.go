package cache_test

import (
	"math/rand"
	"slices"
	"testing"

	"quadrille/api"
	"quadrille/cache"
)

// wish is a line that is asked for.
type wish struct {
	line  uint32
	write bool
}

// retold is what the chapter says, told again: all lines in the order in which they came, whatever their set; what is asked for and what is given back as lists of one at most.
type retold struct {
	id         int
	sets, ways int
	there      []api.Line
	wishes     []wish
	gifts      []api.Line
}

func (r *retold) copy() *retold {
	other := *r
	other.there, other.wishes, other.gifts = slices.Clone(r.there), slices.Clone(r.wishes), slices.Clone(r.gifts)
	return &other
}

// lines is those that are there, set by set.
func (r *retold) lines() []api.Line {
	all := slices.Clone(r.there)
	slices.SortStableFunc(all, func(a, b api.Line) int { return r.setOf(a.Number) - r.setOf(b.Number) })
	return all
}

func (r *retold) setOf(number uint32) int { return int(number) & (r.sets - 1) }

// at tells where among those that came a line is, or -1.
func (r *retold) at(number uint32) int {
	return slices.IndexFunc(r.there, func(l api.Line) bool { return l.Number == number })
}

// giftAt tells where among those given back a line is, or -1.
func (r *retold) giftAt(number uint32) int {
	return slices.IndexFunc(r.gifts, func(l api.Line) bool { return l.Number == number })
}

func (r *retold) state(number uint32) api.State {
	if at := r.at(number); at >= 0 {
		return r.there[at].State
	}
	return api.StateI
}

// access tells where the line of an access is, or why it is refused.
func (r *retold) access(addr uint32, width int, least api.State) (int, api.Errno) {
	at := r.at(addr >> 4)
	switch {
	case width != 1 && width != 2 && width != 4:
		return 0, api.ErrArg
	case addr&uint32(width-1) != 0:
		return 0, api.ErrArg
	case at < 0 || r.there[at].State < least:
		return 0, api.ErrMiss
	}
	return at, api.OK
}

func (r *retold) read(addr uint32, width int) (uint32, api.Errno) {
	at, err := r.access(addr, width, api.StateS)
	if err != api.OK {
		return 0, err
	}
	from := int(addr & 15)
	return lowest(r.there[at].Bytes[from : from+width]), api.OK
}

func (r *retold) write(addr uint32, width int, value uint32) api.Errno {
	at, err := r.access(addr, width, api.StateE)
	if err != api.OK {
		return err
	}
	for i := addr & 15; i < addr&15+uint32(width); i++ {
		r.there[at].Bytes[i] = byte(value)
		value >>= 8
	}
	r.there[at].State = api.StateM
	return api.OK
}

// out puts a line out; false, where it can't be.
func (r *retold) out(l api.Line) ([]api.Msg, bool) {
	var sent []api.Msg
	if l.State > api.StateS {
		if len(r.gifts) == 1 {
			return nil, false
		}
		r.gifts = []api.Line{l}
		sent = []api.Msg{bringing(api.MsgPut, r.id, l)}
	}
	r.there = slices.Delete(r.there, r.at(l.Number), r.at(l.Number)+1)
	return sent, true
}

func (r *retold) ask(number uint32, write bool, pick int) ([]api.Msg, api.Errno) {
	var set []api.Line
	for _, l := range r.there {
		if r.setOf(l.Number) == r.setOf(number) {
			set = append(set, l)
		}
	}
	s := r.state(number)
	switch {
	case len(r.wishes) == 1 || r.giftAt(number) >= 0:
		return nil, api.ErrBusy
	case s == api.StateS && !write || s > api.StateS:
		return nil, api.ErrThere
	}
	var sent []api.Msg
	if s == api.StateI && len(set) == r.ways {
		puts, done := r.out(chosenOf(set, pick))
		if !done {
			return nil, api.ErrBusy
		}
		sent = puts
	}
	r.wishes = []wish{{number, write}}
	if write {
		return append(sent, signal(api.MsgGetM, r.id, number)), api.OK
	}
	return append(sent, signal(api.MsgGetS, r.id, number)), api.OK
}

func (r *retold) evict(pick int) []api.Msg {
	if len(r.there) == 0 {
		return nil
	}
	sent, _ := r.out(chosenOf(r.lines(), pick))
	return sent
}

// take takes a message to this cache that may be; false, where it is stray.
func (r *retold) take(m api.Msg) ([]api.Msg, bool) {
	at, giftAt, s := r.at(m.Line), r.giftAt(m.Line), r.state(m.Line)
	switch m.Kind {
	case api.MsgDrop:
		if s > api.StateS {
			return nil, false
		}
		if at >= 0 {
			r.there = slices.Delete(r.there, at, at+1)
		}
		return []api.Msg{signal(api.MsgAck, r.id, m.Line)}, true
	case api.MsgPutAck:
		if giftAt < 0 {
			return nil, false
		}
		r.gifts = nil
		return nil, true
	case api.MsgShare, api.MsgYield:
		if giftAt >= 0 {
			return []api.Msg{bringing(api.MsgBack, r.id, r.gifts[giftAt])}, true
		}
		if s < api.StateE {
			return nil, false
		}
		back := bringing(api.MsgBack, r.id, r.there[at])
		if m.Kind == api.MsgShare {
			r.there[at].State = api.StateS
		} else {
			r.there = slices.Delete(r.there, at, at+1)
		}
		return []api.Msg{back}, true
	}
	if !slices.Equal(r.wishes, []wish{{m.Line, m.Kind == api.MsgDataM}}) {
		return nil, false
	}
	l := api.Line{Number: m.Line, State: api.StateE, Bytes: m.Bytes}
	if m.Kind == api.MsgDataS {
		l.State = api.StateS
	}
	if at >= 0 {
		r.there[at] = l
	} else {
		r.there = append(r.there, l)
	}
	r.wishes = nil
	return []api.Msg{signal(api.MsgDone, r.id, m.Line)}, true
}

// pair is a cache, and what is told again of it.
type pair struct {
	c *cache.Cache
	r *retold
}

func paired(t *testing.T, id, sets, ways int) pair {
	t.Helper()
	return pair{made(t, id, sets, ways), &retold{id: id, sets: sets, ways: ways}}
}

func (p pair) copy() pair { return pair{p.c.Copy(), p.r.copy()} }

// hold holds all that the cache tells, and the states of some lines.
func (p pair) hold(t *testing.T, what string) {
	t.Helper()
	want := told{lines: p.r.lines()}
	for _, w := range p.r.wishes {
		want.asked, want.write, want.is = w.line, w.write, true
	}
	for _, l := range p.r.gifts {
		want.given, want.gives = l, true
	}
	if got := toldBy(p.c); !sameTold(got, want) {
		t.Fatalf("behind %s it tells %v, want %v", what, got, want)
	}
	for number := range uint32(10) {
		if got := p.c.State(number); got != p.r.state(number) {
			t.Fatalf("behind %s line %d is %d, want %d", what, number, got, p.r.state(number))
		}
	}
}

// holdAnswer holds what was sent, or why it was refused.
func (p pair) holdAnswer(t *testing.T, what string, sent, want []api.Msg, err, wantErr api.Errno) {
	t.Helper()
	if !slices.Equal(sent, want) || err != wantErr {
		t.Fatalf("%s: %v, %v is sent, want %v, %v", what, sent, err, want, wantErr)
	}
	p.hold(t, what)
}

func (p pair) ask(t *testing.T, number uint32, write bool, pick int) {
	t.Helper()
	sent, err := p.c.Ask(number, write, pick)
	want, wantErr := p.r.ask(number, write, pick)
	p.holdAnswer(t, lineName("Ask", number), sent, want, err, wantErr)
}

func (p pair) evict(t *testing.T, pick int) {
	t.Helper()
	sent := p.c.Evict(pick)
	p.holdAnswer(t, "Evict", sent, p.r.evict(pick), api.OK, api.OK)
}

func (p pair) take(t *testing.T, m api.Msg) {
	t.Helper()
	sent, err := p.c.Take(m)
	want, taken := p.r.take(m)
	wantErr := api.OK
	if !taken {
		wantErr = api.ErrStray
	}
	p.holdAnswer(t, "Take "+textOf(m), sent, want, err, wantErr)
}

func (p pair) access(t *testing.T, addr uint32, width int, value uint32) {
	t.Helper()
	got, err := p.c.Read(addr, width)
	if want, wantErr := p.r.read(addr, width); got != want || err != wantErr {
		t.Fatalf("Read(%d, %d) is %d, %v, want %d, %v", addr, width, got, err, want, wantErr)
	}
	if err, want := p.c.Write(addr, width, value), p.r.write(addr, width, value); err != want {
		t.Fatalf("Write(%d, %d) is %v, want %v", addr, width, err, want)
	}
	p.hold(t, "Write")
}

// next is, of each call that can be done of some lines, the pair on which it was done.
func (p pair) next(t *testing.T, lines uint32) []pair {
	t.Helper()
	var all []pair
	other := func() pair {
		all = append(all, p.copy())
		return all[len(all)-1]
	}
	for number := range lines {
		for pick := range 3 {
			other().ask(t, number, false, pick)
			other().ask(t, number, true, -pick)
		}
		for _, kind := range toCache() {
			other().take(t, message(kind, p.r.id, number, 300+int(number)))
		}
		other().access(t, number*16+8, 4, 0x55667788+number)
	}
	for pick := range int(lines) {
		other().evict(t, pick)
	}
	return all
}

// TestP13_1AllStates does each call of some lines in each state to which any calls lead.
func TestP13_1AllStates(t *testing.T) {
	for _, w := range []struct {
		sets, ways int
		lines      uint32
		least      int
	}{{1, 1, 3, 90}, {1, 2, 3, 400}, {2, 1, 4, 700}, {1, 2, 4, 1400}} {
		first := paired(t, 1, w.sets, w.ways)
		seen := map[string]bool{cacheText(first.c): true}
		ahead := []pair{first}
		for len(ahead) > 0 {
			p := ahead[0]
			ahead = ahead[1:]
			for _, other := range p.next(t, w.lines) {
				if text := cacheText(other.c); !seen[text] {
					seen[text] = true
					ahead = append(ahead, other)
				}
			}
			p.hold(t, "calls of its copies")
		}
		if len(seen) < w.least {
			t.Errorf("of %d sets of %d there are %d states alone", w.sets, w.ways, len(seen))
		}
	}
}

// likely is a message that may come now, or any one.
func (p pair) likely(random *rand.Rand, lines, number int) api.Msg {
	kind, of := toCache()[random.Intn(7)], uint32(random.Intn(lines))
	switch random.Intn(4) {
	case 0:
		for _, w := range p.r.wishes {
			kind, of = []api.MsgKind{api.MsgDataS, api.MsgDataE}[random.Intn(2)], w.line
			if w.write {
				kind = api.MsgDataM
			}
		}
	case 1:
		for _, l := range p.r.gifts {
			kind, of = []api.MsgKind{api.MsgPutAck, api.MsgPutAck, api.MsgShare, api.MsgYield, api.MsgDrop}[random.Intn(5)], l.Number
		}
	}
	return message(kind, p.r.id, of, number)
}

// TestP13_2Walks holds caches over long ways against what the chapter says, told again; copies are made on the way, and each goes on by itself.
func TestP13_2Walks(t *testing.T) {
	for seed, shape := range [][3]int{{1, 1, 3}, {1, 3, 6}, {2, 2, 9}, {4, 1, 9}, {8, 8, 150}, {64, 2, 400}} {
		random := rand.New(rand.NewSource(int64(seed)))
		lines := shape[2]
		pairs := []pair{paired(t, seed%4, shape[0], shape[1])}
		for number := range 8000 {
			p := pairs[random.Intn(len(pairs))]
			switch random.Intn(8) {
			case 0, 1:
				p.ask(t, uint32(random.Intn(lines)), random.Intn(2) == 0, random.Intn(40)-20)
			case 2:
				if random.Intn(4) == 0 {
					p.evict(t, random.Intn(400)-200)
				}
			case 3, 4:
				p.access(t, uint32(random.Intn(lines*16)), []int{1, 2, 4, 1, 2, 4, 3, 0, 8, -1}[random.Intn(10)], random.Uint32())
			default:
				p.take(t, p.likely(random, lines, 50+number))
			}
			if random.Intn(80) == 0 {
				other := p.copy()
				if len(pairs) < 5 {
					pairs = append(pairs, other)
				} else {
					pairs[random.Intn(len(pairs))] = other
				}
				for _, p := range pairs {
					p.hold(t, "calls of others")
				}
			}
		}
	}
}
