package cache_test

import (
	"maps"
	"math/rand"
	"slices"
	"strconv"
	"strings"
	"testing"

	"quadrille/api"
	"quadrille/cache"
	"quadrille/home"
	"quadrille/image"
	"quadrille/net"
)

// system is caches with a home and a net; last, what was last written of each line; met, how often each thing was met, of all that were copied from one.
type system struct {
	caches []*cache.Cache
	home   *home.Home
	net    *net.Net
	last   [][api.LineBytes]byte
	wrote  uint32
	met    map[string]int
}

func systemOf(t *testing.T, caches, sets, ways, lines int) *system {
	t.Helper()
	m, err := image.New(lines * api.LineBytes)
	ways1024, _ := net.New(api.MaxNet)
	s := &system{net: ways1024, met: map[string]int{}}
	for number := range lines {
		s.last = append(s.last, bytesOf(number))
		m.SetLine(uint32(number), bytesOf(number))
	}
	s.home, _ = home.New(m)
	for id := range caches {
		s.caches = append(s.caches, made(t, id, sets, ways))
	}
	if err != api.OK || s.home == nil {
		t.Fatalf("there is no memory of %d lines: %v", lines, err)
	}
	return s
}

func (s *system) copy() *system {
	other := &system{home: s.home.Copy(), net: s.net.Copy(), last: slices.Clone(s.last), wrote: s.wrote, met: s.met}
	for _, c := range s.caches {
		other.caches = append(other.caches, c.Copy())
	}
	return other
}

// send sends messages.
func (s *system) send(t *testing.T, all []api.Msg) {
	t.Helper()
	for _, m := range all {
		if err := s.net.Send(m); err != api.OK {
			t.Fatalf("%v is not sent: %v", m, err)
		}
	}
}

// deliver delivers a message, and holds that it is not refused.
func (s *system) deliver(t *testing.T, pick int) {
	t.Helper()
	m, is := s.net.Deliver(pick)
	if !is {
		return
	}
	var sent []api.Msg
	var err api.Errno
	if m.To == api.Home {
		sent, err = s.home.Take(m)
	} else {
		s.met[s.situation(m)]++
		sent, err = s.caches[m.To].Take(m)
	}
	if err != api.OK {
		t.Fatalf("%v is refused: %v", m, err)
	}
	s.send(t, sent)
}

// situation tells a message to a cache, and how its line stands there.
func (s *system) situation(m api.Msg) string {
	c := s.caches[m.To]
	text := names()[m.Kind] + " of " + []string{"I", "S", "E", "M"}[c.State(m.Line)]
	if line, _, is := c.Asked(); is && line == m.Line {
		text += " asked for"
	}
	if l, is := c.Given(); is && l.Number == m.Line {
		text += " given"
	}
	return text
}

func (s *system) ask(t *testing.T, id int, number uint32, write bool, pick int) {
	t.Helper()
	sent, err := s.caches[id].Ask(number, write, pick)
	if err != api.OK {
		s.met[errorText(err)]++
	}
	s.send(t, sent)
}

func (s *system) evict(t *testing.T, id, pick int) {
	t.Helper()
	s.send(t, s.caches[id].Evict(pick))
}

// read reads, and holds what is read against what was last written.
func (s *system) read(t *testing.T, id int, addr uint32, width int) {
	t.Helper()
	got, err := s.caches[id].Read(addr, width)
	if err != api.OK {
		s.met["read "+errorText(err)]++
		return
	}
	s.met["read"]++
	at := addr % 16
	if want := lowest(s.last[addr/16][at : at+uint32(width)]); got != want {
		t.Fatalf("cache %d reads %d at %d, where %d was written last", id, got, addr, want)
	}
}

// write writes what was written nowhere before.
func (s *system) write(id int, addr uint32, width int) {
	s.wrote += 0x01030507
	if s.caches[id].Write(addr, width, s.wrote) != api.OK {
		s.met["write refused"]++
		return
	}
	s.met["write"]++
	for i := range uint32(width) {
		s.last[addr/16][addr%16+i] = byte(s.wrote >> (8 * i))
	}
}

// hold holds that at most one cache has a line to write, and then no other one has it; and that all that have it have what was last written.
func (s *system) hold(t *testing.T) {
	t.Helper()
	for number, last := range s.last {
		has, alone := 0, 0
		for _, c := range s.caches {
			state := c.State(uint32(number))
			if state != api.StateI {
				has++
			}
			if state == api.StateE || state == api.StateM {
				alone++
			}
		}
		if alone > 1 || alone == 1 && has > 1 {
			t.Fatalf("of line %d %d caches are alone, of %d", number, alone, has)
		}
		if got := s.memory(uint32(number)); got != last {
			t.Fatalf("line %d is %v, where %v was written last", number, got, last)
		}
	}
	for id, c := range s.caches {
		for _, l := range c.Lines() {
			if l.Bytes != s.last[l.Number] {
				t.Fatalf("cache %d has %v of line %d, where %v was written last", id, l.Bytes, l.Number, s.last[l.Number])
			}
		}
	}
}

// memory tells a line's bytes as they are: of the cache that has it alone, or that owns it and gives it back, or of what its owner has sent back, or the home's.
func (s *system) memory(number uint32) [api.LineBytes]byte {
	e, _ := s.home.Entry(number)
	bytes, _ := s.home.Memory().Line(number)
	for _, m := range s.net.To(api.Home) {
		if m.Kind == api.MsgBack && m.Line == number && m.From == e.Owner {
			bytes = m.Bytes
		}
	}
	for id, c := range s.caches {
		if l, is := c.Given(); is && l.Number == number && id == e.Owner {
			bytes = l.Bytes
		}
	}
	for _, c := range s.caches {
		for _, l := range c.Lines() {
			if l.Number == number && l.State != api.StateS {
				bytes = l.Bytes
			}
		}
	}
	return bytes
}

// settle delivers all, in an order that a function chooses, and holds that then nothing is asked for, given back, or busy.
func (s *system) settle(t *testing.T, pick func() int) {
	t.Helper()
	for steps := 0; s.net.Len() > 0; steps++ {
		if steps > 5000 {
			t.Fatalf("the net is never empty: %s", textsOf(s.net.Ready()))
		}
		s.deliver(t, pick())
		s.hold(t)
	}
	if !s.home.Idle() {
		t.Fatal("the net is empty, and the home is not idle")
	}
	for id, c := range s.caches {
		_, _, asks := c.Asked()
		if _, gives := c.Given(); asks || gives {
			t.Fatalf("the net is empty, and cache %d has %q", id, cacheText(c))
		}
	}
}

// step does anything.
func (s *system) step(t *testing.T, random *rand.Rand, delivers int) {
	t.Helper()
	id, number := random.Intn(len(s.caches)), uint32(random.Intn(len(s.last)))
	width := 1 << random.Intn(3)
	addr := number*16 + uint32(random.Intn(16/width)*width)
	switch {
	case random.Intn(10) < delivers:
		s.deliver(t, random.Intn(2000)-1000)
	case random.Intn(3) == 0:
		s.ask(t, id, number, random.Intn(2) == 0, random.Intn(20)-10)
	case random.Intn(6) == 0:
		s.evict(t, id, random.Intn(20)-10)
	case random.Intn(2) == 0:
		s.write(id, addr, width)
	default:
		s.read(t, id, addr, width)
	}
}

// mustMeet is what runs are to have met, else they show too little.
func mustMeet() []string {
	return []string{
		"DataS of I asked for", "DataE of I asked for", "DataM of I asked for", "DataM of S asked for",
		"Share of E", "Share of M", "Share of I given",
		"Yield of E", "Yield of M", "Yield of I given",
		"Drop of S", "Drop of S asked for", "Drop of I", "Drop of I asked for", "Drop of I given",
		"PutAck of I given",
		"busy", "there", "read", "read miss", "write", "write refused",
	}
}

// holdMet holds that all of that was met, and nothing else, which would be stray.
func holdMet(t *testing.T, met map[string]int) {
	t.Helper()
	must := mustMeet()
	for _, text := range must {
		if met[text] == 0 {
			t.Errorf("none met %q", text)
		}
	}
	for _, text := range slices.Sorted(maps.Keys(met)) {
		if !slices.Contains(must, text) {
			t.Errorf("it met %q %d times, which may not come", text, met[text])
		}
	}
}

// TestP13_3Runs has four caches with a home and a net, over several lines of one set and of some, whatever is delivered when, down to a net that is empty.
func TestP13_3Runs(t *testing.T) {
	met := map[string]int{}
	for _, shape := range [][3]int{{1, 1, 2}, {1, 1, 4}, {1, 2, 4}, {1, 3, 4}, {2, 1, 4}, {2, 2, 8}, {4, 2, 16}} {
		for seed := range int64(30) {
			random := rand.New(rand.NewSource(seed))
			s := systemOf(t, 4, shape[0], shape[1], shape[2])
			s.met = met
			for range 4 {
				for range 150 {
					s.step(t, random, int(3+seed%5))
					s.hold(t)
				}
				s.settle(t, random.Int)
			}
		}
	}
	holdMet(t, met)
}

// TestP13_3Orders has a net that delivers the last message first, or the first one.
func TestP13_3Orders(t *testing.T) {
	for _, pick := range []int{0, -1, 1} {
		for seed := range int64(20) {
			random := rand.New(rand.NewSource(100 + seed))
			s := systemOf(t, 4, 1, 2, 4)
			for range 600 {
				if random.Intn(2) == 0 {
					s.deliver(t, pick)
				} else {
					s.step(t, random, 0)
				}
				s.hold(t)
			}
			s.settle(t, func() int { return pick })
		}
	}
}

// fresh tells bytes by whether they are those that were last written: older ones are alike.
func (s *system) fresh(number uint32, bytes [api.LineBytes]byte) string {
	if bytes == s.last[number] {
		return "+"
	}
	return "-"
}

// msgText tells a message, with whose it is, and whether its bytes are fresh.
func (s *system) msgText(m api.Msg) string {
	text := strconv.Itoa(m.From) + strconv.Itoa(m.To) + textOf(m)
	if isData(m.Kind) || m.Kind == api.MsgPut || m.Kind == api.MsgBack {
		text += s.fresh(m.Line, m.Bytes)
	}
	return text
}

// text tells all of a system by which its ways from there on can differ.
func (s *system) text() string {
	var parts []string
	for _, c := range s.caches {
		parts = append(parts, cacheText(c))
		for _, l := range c.Lines() {
			parts = append(parts, s.fresh(l.Number, l.Bytes))
		}
		if l, is := c.Given(); is {
			parts = append(parts, "given", s.fresh(l.Number, l.Bytes))
		}
	}
	memory := s.home.Memory()
	for number := range uint32(len(s.last)) {
		e, _ := s.home.Entry(number)
		bytes, _ := memory.Line(number)
		parts = append(parts, strconv.Itoa(e.Owner), strconv.Itoa(e.Asks), strconv.Itoa(int(e.Kind)), strconv.Itoa(e.Waits), s.fresh(number, bytes))
		for _, flag := range append(e.Sharers[:], e.Busy, e.Told) {
			parts = append(parts, strconv.FormatBool(flag))
		}
		for _, m := range e.Queue {
			parts = append(parts, s.msgText(m))
		}
	}
	var way []string
	for _, m := range s.net.Ready() {
		way = append(way, s.msgText(m))
	}
	slices.Sort(way)
	return strings.Join(append(parts, way...), ",")
}

// next is the system behind each thing that can be done.
func (s *system) next(t *testing.T) []*system {
	t.Helper()
	var all []*system
	other := func() *system {
		all = append(all, s.copy())
		return all[len(all)-1]
	}
	for pick := range s.net.Len() {
		other().deliver(t, pick)
	}
	for id, c := range s.caches {
		for number := range uint32(len(s.last)) {
			other().ask(t, id, number, false, 0)
			other().ask(t, id, number, true, 0)
		}
		for pick, l := range c.Lines() {
			other().evict(t, id, pick)
			if l.State != api.StateS {
				other().write(id, l.Number*16, 4)
			}
		}
	}
	return all
}

// allWays goes over the states to which a system leads, the nearest first, up to so many, and tells how many there are.
func allWays(t *testing.T, first *system, most int) int {
	t.Helper()
	seen := map[string]bool{first.text(): true}
	ahead := []*system{first}
	for len(ahead) > 0 && len(seen) < most {
		s := ahead[0]
		ahead = ahead[1:]
		s.hold(t)
		for _, other := range s.next(t) {
			if text := other.text(); !seen[text] {
				seen[text] = true
				ahead = append(ahead, other)
			}
		}
	}
	return len(seen)
}

// TestP13_3AllWays has few caches and lines, and all that can be chosen: no message is refused in any state to which that leads, but in those that are too many to go over.
func TestP13_3AllWays(t *testing.T) {
	for _, w := range []struct{ caches, lines, least, most int }{
		{2, 1, 500, 1 << 20},
		{3, 1, 20000, 1 << 20},
		{4, 1, 10000, 10000},
		{2, 2, 10000, 10000},
	} {
		if many := allWays(t, systemOf(t, w.caches, 1, 1, w.lines), w.most); many < w.least {
			t.Errorf("%d caches, %d lines: there are %d states alone", w.caches, w.lines, many)
		}
	}
}
