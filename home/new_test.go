package home_test

import (
	"math"
	"testing"

	"quadrille/api"
	"quadrille/home"
	"quadrille/image"
)

// sizes is all sizes that a memory may have.
func sizes() []int { return []int{16, 32, 64, 128, 256, 512, 1024, 2048, 4096} }

func TestP12_1NewOfNone(t *testing.T) {
	refused, _ := image.New(48)
	for i, m := range []*image.Image{nil, {}, refused} {
		if h, err := home.New(m); h != nil || err != api.ErrNil {
			t.Errorf("New of no memory (%d) is %v, %v", i, h, err)
		}
	}
}

func TestP12_1New(t *testing.T) {
	for _, size := range sizes() {
		h := made(t, size)
		if !image.Same(h.Memory(), memory(t, size)) {
			t.Errorf("of %d bytes: its memory is another one", size)
		}
		if h.Lines() != size/16 || !h.Idle() {
			t.Errorf("of %d bytes: it has %d lines, idle %v", size, h.Lines(), h.Idle())
		}
		for line := range uint32(size / 16) {
			if e, err := h.Entry(line); entryText(e) != "nobody" || err != api.OK {
				t.Errorf("of %d bytes: line %d is %q, %v", size, line, entryText(e), err)
			}
		}
	}
}

// TestP12_1NewCopies writes into the memory of which a home was made, and has messages write into the home's.
func TestP12_1NewCopies(t *testing.T) {
	for _, size := range []int{16, 4096} {
		m := memory(t, size)
		h, _ := home.New(m)
		other, _ := home.New(m)
		last := uint32(size/16 - 1)
		m.SetLine(0, bytesOf(9000))
		m.SetLine(last, bytesOf(9001))
		for _, h := range []*home.Home{h, other} {
			if !image.Same(h.Memory(), memory(t, size)) {
				t.Errorf("of %d bytes: what is written behind New is in it", size)
			}
		}
		was := m.Copy()
		sent, err := h.Take(message(api.MsgGetM, 2, last, 0))
		if err != api.OK || len(sent) != 1 || sent[0].Bytes != bytesOf(int(last)) {
			t.Errorf("of %d bytes: %v, %v is sent", size, sent, err)
		}
		h.Take(message(api.MsgDone, 2, last, 0))
		h.Take(message(api.MsgPut, 2, last, 9002))
		if got, _ := h.Memory().Line(last); got != bytesOf(9002) {
			t.Errorf("of %d bytes: line %d has %v", size, last, got)
		}
		if !image.Same(m, was) || !image.Same(other.Memory(), memory(t, size)) {
			t.Errorf("of %d bytes: a home's messages write into what is not its own", size)
		}
		if e, _ := other.Entry(last); entryText(e) != "nobody" {
			t.Errorf("of %d bytes: another home has %q", size, entryText(e))
		}
	}
}

// TestP12_2NoHome has each call of no home.
func TestP12_2NoHome(t *testing.T) {
	for i, h := range none() {
		for _, m := range append(mayNotBe(), message(api.MsgGetS, 0, 0, 0), message(api.MsgGetS, 0, 999, 0), message(api.MsgDone, 0, 0, 0)) {
			if sent, err := h.Take(m); len(sent) > 0 || err != api.ErrNil {
				t.Errorf("none (%d): Take(%v) is %v, %v", i, m, sent, err)
			}
		}
		for _, line := range []uint32{0, 1, 256, math.MaxUint32} {
			if e, err := h.Entry(line); !isZero(e) || err != api.ErrNil {
				t.Errorf("none (%d): Entry(%d) is %v, %v", i, line, e, err)
			}
		}
		if h.Memory() != nil || h.Lines() != 0 || h.Idle() || h.Copy() != nil {
			t.Errorf("none (%d): %v, %d, %v, %v", i, h.Memory(), h.Lines(), h.Idle(), h.Copy())
		}
	}
}

// isZero tells whether an entry has nothing, which no line's has, whose owner is -1.
func isZero(e api.Entry) bool {
	return e.Owner == 0 && entryText(e) == "owner 0" && len(e.Queue) == 0
}

// mayNotBe is messages that may not be, or are not to the home.
func mayNotBe() []api.Msg {
	all := []api.Msg{
		{},
		{Kind: api.MsgNone, From: 0, To: api.Home},
		{Kind: -1, From: 0, To: api.Home},
		{Kind: 14, From: 0, To: api.Home},
		{Kind: math.MaxInt, From: 0, To: api.Home},
		{Kind: math.MinInt, From: 0, To: api.Home},
		{Kind: 1<<32 + 1, From: 0, To: api.Home},
	}
	for _, kind := range toHome() {
		for _, from := range []int{-1, 4, 5, math.MinInt, math.MaxInt, 1 << 32} {
			all = append(all, api.Msg{Kind: kind, From: from, To: api.Home})
		}
		for _, to := range []int{-1, 0, 1, 2, 3, 5, math.MinInt, math.MaxInt, 1<<32 + 4} {
			all = append(all, api.Msg{Kind: kind, From: 1, To: to})
		}
		all = append(all, api.Msg{Kind: kind, From: api.Home, To: 1})
		if !bringsBytes(kind) {
			all = append(all, api.Msg{Kind: kind, From: 1, To: api.Home, Bytes: [16]byte{1}}, api.Msg{Kind: kind, From: 1, To: api.Home, Bytes: [16]byte{15: 255}})
		}
	}
	for _, kind := range toCache() {
		for cache := range 4 {
			all = append(all, api.Msg{Kind: kind, From: api.Home, To: cache}, api.Msg{Kind: kind, From: cache, To: api.Home})
		}
	}
	return all
}

// refusing is homes in several states, of four lines: all of line 1.
func refusing(t *testing.T) []*home.Home {
	t.Helper()
	all := []*home.Home{made(t, 64)}
	for _, rows := range [][]row{
		owned("1"),
		shared(),
		{{"1 GetM", "1 DataM", "owner 1; 1 GetM told", 0}, {"2 GetS", "", "owner 1; 1 GetM told; then 2 GetS", 0}},
		append(owned("0"), row{"1 GetS", "0 Share", "owner 0; 1 GetS waits 1", 0}),
	} {
		r := begun(t, 1)
		for _, w := range rows {
			r.step(t, w)
		}
		all = append(all, r.home)
	}
	return all
}

// holdRefused holds that a message is refused, and nothing is changed by that.
func holdRefused(t *testing.T, h *home.Home, m api.Msg, want api.Errno) {
	t.Helper()
	was := h.Copy()
	if sent, err := h.Take(m); len(sent) > 0 || err != want {
		t.Errorf("Take(%v) is %v, %v, want %v", m, sent, err, want)
	}
	holdSame(t, h, was)
}

// TestP12_1ErrArg has messages that may not be, of each line, those that memory has not among them: that they may not be comes first.
func TestP12_1ErrArg(t *testing.T) {
	for _, h := range refusing(t) {
		for _, m := range mayNotBe() {
			for _, line := range append(noLines(4), 0, 1, 3) {
				m.Line = line
				holdRefused(t, h, m, api.ErrArg)
			}
		}
	}
}

// TestP12_1ErrRange has messages of lines that memory has not: that comes ahead of whether they may come now.
func TestP12_1ErrRange(t *testing.T) {
	for _, h := range refusing(t) {
		for _, kind := range toHome() {
			for from := range 4 {
				for _, line := range noLines(4) {
					holdRefused(t, h, message(kind, from, line, 77), api.ErrRange)
				}
			}
		}
	}
}

// TestP12_1LastLine has messages of the last line of each size, and of the one behind it.
func TestP12_1LastLine(t *testing.T) {
	for _, size := range sizes() {
		h := made(t, size)
		lines := uint32(size / 16)
		sent, err := h.Take(message(api.MsgGetS, 1, lines-1, 0))
		want := api.Msg{Kind: api.MsgDataE, From: api.Home, To: 1, Line: lines - 1, Bytes: bytesOf(int(lines - 1))}
		if err != api.OK || len(sent) != 1 || sent[0] != want {
			t.Errorf("of %d bytes: %v, %v is sent, want %v", size, sent, err, want)
		}
		holdRefused(t, h, message(api.MsgGetS, 1, lines, 0), api.ErrRange)
		if e, err := h.Entry(lines - 1); entryText(e) != "owner 1; 1 GetS told" || err != api.OK {
			t.Errorf("of %d bytes: the last line is %q, %v", size, entryText(e), err)
		}
		if e, err := h.Entry(lines); !isZero(e) || err != api.ErrRange {
			t.Errorf("of %d bytes: the line behind the last one is %v, %v", size, e, err)
		}
	}
}
