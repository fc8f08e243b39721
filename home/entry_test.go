package home_test

import (
	"slices"
	"testing"

	"quadrille/api"
	"quadrille/home"
	"quadrille/image"
)

// sameEntry tells whether two entries have the same.
func sameEntry(a, b api.Entry) bool {
	alike := slices.Equal(a.Queue, b.Queue)
	a.Queue, b.Queue = nil, nil
	return alike && a.Owner == b.Owner && a.Sharers == b.Sharers && a.Busy == b.Busy && a.Asks == b.Asks && a.Kind == b.Kind && a.Waits == b.Waits && a.Told == b.Told
}

// holdSame holds that two homes tell the same.
func holdSame(t *testing.T, h, want *home.Home) {
	t.Helper()
	if h.Lines() != want.Lines() || h.Idle() != want.Idle() || !image.Same(h.Memory(), want.Memory()) {
		t.Fatalf("it has %d lines, idle %v, %v, want %d, %v, %v", h.Lines(), h.Idle(), h.Memory(), want.Lines(), want.Idle(), want.Memory())
	}
	for line := range uint32(want.Lines()) {
		got, err := h.Entry(line)
		if is, _ := want.Entry(line); !sameEntry(got, is) || err != api.OK {
			t.Errorf("line %d is %v, %v, want %v", line, got, err, is)
		}
	}
}

func TestP12_2EntryOfNoLine(t *testing.T) {
	for _, size := range sizes() {
		h := made(t, size)
		for _, line := range noLines(size / 16) {
			if int(line) < size/16 {
				continue
			}
			if e, err := h.Entry(line); !isZero(e) || err != api.ErrRange {
				t.Errorf("of %d bytes: Entry(%d) is %v, %v", size, line, e, err)
			}
		}
	}
}

// busied is a home whose line 2 is busy, with some that wait.
func busied(t *testing.T) *home.Home {
	t.Helper()
	h := made(t, 64)
	for i, m := range []api.Msg{
		message(api.MsgGetM, 3, 2, 0),
		message(api.MsgPut, 3, 2, 800),
		message(api.MsgGetS, 1, 2, 0),
		message(api.MsgGetS, 0, 2, 0),
		message(api.MsgPut, 2, 2, 801),
	} {
		if _, err := h.Take(m); err != api.OK {
			t.Fatalf("message %d is %v", i, err)
		}
	}
	return h
}

// TestP12_2EntryApart writes into an entry that was told, and holds one that was told against what comes behind it.
func TestP12_2EntryApart(t *testing.T) {
	h := busied(t)
	was := h.Copy()
	e, _ := h.Entry(2)
	twice, _ := h.Entry(2)
	e.Owner, e.Sharers = 1, [4]bool{true, true, true, true}
	e.Queue[0], e.Queue[3] = api.Msg{}, api.Msg{}
	e.Queue = append(e.Queue[:2], message(api.MsgGetM, 2, 2, 0))
	holdSame(t, h, was)
	kept, _ := was.Entry(2)
	if !sameEntry(twice, kept) {
		t.Errorf("what is written into an entry is in another one: %v", twice)
	}
	h.Take(message(api.MsgDone, 3, 2, 0))
	h.Take(message(api.MsgGetM, 0, 2, 0))
	h.Take(message(api.MsgDone, 1, 2, 0))
	if !sameEntry(twice, kept) {
		t.Errorf("messages change an entry that was told: %v, want %v", twice, kept)
	}
}

// TestP12_2EntryRoom writes into the room behind a queue that was told, ahead of what comes to wait there.
func TestP12_2EntryRoom(t *testing.T) {
	h := made(t, 16)
	h.Take(message(api.MsgGetM, 3, 0, 0))
	var want []api.Msg
	for number := range 9 {
		early, _ := h.Entry(0)
		m := message(api.MsgPut, number%4, 0, 600+number)
		want = append(want, m)
		h.Take(m)
		room := early.Queue[:cap(early.Queue)]
		for i := range room {
			room[i] = api.Msg{Kind: api.MsgGetS, Line: 99}
		}
		_ = append(early.Queue, api.Msg{Kind: api.MsgGetM, Line: 98})
		if e, _ := h.Entry(0); !slices.Equal(e.Queue, want) {
			t.Fatalf("those wait: %v, want %v", e.Queue, want)
		}
	}
}

func TestP12_2MemoryApart(t *testing.T) {
	h := busied(t)
	first, second := h.Memory(), h.Memory()
	first.SetLine(2, bytesOf(700))
	first.Write(0, 4, 5)
	if !image.Same(h.Memory(), memory(t, 64)) || !image.Same(second, memory(t, 64)) {
		t.Error("what is written into a memory that was told is in another one")
	}
	h.Take(message(api.MsgDone, 3, 2, 0)) // a MsgPut of the owner waited
	if got, _ := h.Memory().Line(2); got != bytesOf(800) {
		t.Errorf("it has %v, want those of the MsgPut", got)
	}
	if !image.Same(second, memory(t, 64)) {
		t.Error("messages change a memory that was told")
	}
}

// TestP12_1SentApart writes into messages that were told to be sent, and holds them against what is told behind them.
func TestP12_1SentApart(t *testing.T) {
	r := begun(t, 2)
	for _, w := range sharedByAll() {
		r.step(t, w)
	}
	other := r.home.Copy()
	sent, _ := r.home.Take(message(api.MsgGetM, 0, 2, 0))
	want := slices.Clone(sent)
	others, _ := other.Take(message(api.MsgGetM, 0, 2, 0))
	for i := range others {
		others[i] = api.Msg{}
	}
	_ = append(others, api.Msg{Line: 9})
	for _, from := range []int{1, 2, 3} {
		told, err := r.home.Take(message(api.MsgAck, from, 2, 0))
		if err != api.OK {
			t.Fatalf("%d Ack is %v", from, err)
		}
		for i := range told {
			told[i].To = 9
		}
	}
	if !slices.Equal(sent, want) {
		t.Errorf("what was told to be sent is %v, want %v", sent, want)
	}
	if e, _ := r.home.Entry(2); entryText(e) != "owner 0; 0 GetM told" {
		t.Errorf("it is %q", entryText(e))
	}
	if e, _ := other.Entry(2); entryText(e) != "sharer 0, sharer 1, sharer 2, sharer 3; 0 GetM waits 3" {
		t.Errorf("the copy is %q", entryText(e))
	}
}

// TestP12_2Idle has each of many lines busy by itself.
func TestP12_2Idle(t *testing.T) {
	h := made(t, 4096)
	for line := range uint32(256) {
		h.Take(message(api.MsgGetS, int(line%4), line, 0))
		if h.Idle() {
			t.Errorf("it is idle while line %d is busy", line)
		}
		h.Take(message(api.MsgDone, int(line%4), line, 0))
		if !h.Idle() {
			t.Errorf("behind line %d it is not idle", line)
		}
	}
	for line := range uint32(256) {
		h.Take(message(api.MsgPut, 3, line, 0))
		if !h.Idle() {
			t.Errorf("line %d is busy by a MsgPut", line)
		}
	}
	for _, line := range []uint32{255, 0, 128} {
		h.Take(message(api.MsgGetM, 1, line, 0))
	}
	for _, line := range []uint32{0, 255, 128} {
		if h.Idle() {
			t.Errorf("it is idle while line %d is busy", line)
		}
		owner := int(line % 4) // a MsgPut of 3 took the line from 3 alone
		if owner != 3 && owner != 1 {
			h.Take(message(api.MsgBack, owner, line, 900))
		}
		if _, err := h.Take(message(api.MsgDone, 1, line, 0)); err != api.OK {
			t.Errorf("line %d: MsgDone is %v", line, err)
		}
	}
	if !h.Idle() {
		t.Error("in the end it is not idle")
	}
}

// changes is messages of line 2 of a busied home, each list of which changes it.
func changes() [][]api.Msg {
	return [][]api.Msg{
		{message(api.MsgGetM, 1, 2, 0)},
		{message(api.MsgPut, 0, 2, 810)},
		{message(api.MsgDone, 3, 2, 0)},
		{message(api.MsgDone, 3, 2, 0), message(api.MsgDone, 1, 2, 0)},
		{message(api.MsgDone, 3, 2, 0), message(api.MsgDone, 1, 2, 0), message(api.MsgBack, 1, 2, 811)},
		{message(api.MsgDone, 3, 2, 0), message(api.MsgDone, 1, 2, 0), message(api.MsgBack, 1, 2, 811), message(api.MsgDone, 0, 2, 0)},
		{message(api.MsgGetM, 1, 3, 0)},
		{message(api.MsgGetM, 1, 3, 0), message(api.MsgDone, 1, 3, 0), message(api.MsgPut, 1, 3, 812)},
	}
}

// TestP12_2CopyGoesOnApart has one of two go on while the other stays, both ways.
func TestP12_2CopyGoesOnApart(t *testing.T) {
	for i, change := range changes() {
		for _, copyGoesOn := range []bool{false, true} {
			goesOn := busied(t)
			stays := goesOn.Copy()
			if stays == nil || stays == goesOn {
				t.Fatalf("Copy is %v", stays)
			}
			holdSame(t, stays, goesOn)
			if copyGoesOn {
				goesOn, stays = stays, goesOn
			}
			for at, m := range change {
				if _, err := goesOn.Take(m); err != api.OK {
					t.Errorf("change %d, message %d is %v", i, at, err)
				}
			}
			holdSame(t, stays, busied(t))
			after := goesOn.Copy()
			for _, other := range changes() {
				for _, m := range other {
					stays.Take(m)
				}
			}
			holdSame(t, goesOn, after)
		}
	}
}

// TestP12_2CopyRoom has two, of which one is the other's copy, whose queues grow by unlike messages, behind each length of a queue.
func TestP12_2CopyRoom(t *testing.T) {
	for many := range 12 {
		a := made(t, 16)
		a.Take(message(api.MsgGetM, 0, 0, 0))
		var ofA []api.Msg
		for number := range many {
			m := message(api.MsgPut, 0, 0, number)
			ofA = append(ofA, m)
			a.Take(m)
		}
		b := a.Copy()
		ofB := slices.Clone(ofA)
		for number := range 6 {
			toA, toB := message(api.MsgPut, 1, 0, 100+number), message(api.MsgPut, 2, 0, 200+number)
			ofA, ofB = append(ofA, toA), append(ofB, toB)
			a.Take(toA)
			b.Take(toB)
		}
		for _, r := range []struct {
			h    *home.Home
			want []api.Msg
		}{{a, ofA}, {b, ofB}} {
			if e, _ := r.h.Entry(0); !slices.Equal(e.Queue, r.want) {
				t.Errorf("behind %d those wait: %v, want %v", many, e.Queue, r.want)
			}
		}
	}
}
