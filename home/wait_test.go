package home_test

import (
	"slices"
	"testing"

	"quadrille/api"
)

// TestP12_1WaitInOrder has several that wait: each begins when the one ahead of it is done.
func TestP12_1WaitInOrder(t *testing.T) {
	steps(t,
		row{"0 GetM", "0 DataM", "owner 0; 0 GetM told", 0},
		row{"1 GetS", "", "owner 0; 0 GetM told; then 1 GetS", 0},
		row{"2 GetM", "", "owner 0; 0 GetM told; then 1 GetS, 2 GetM", 0},
		row{"3 GetS", "", "owner 0; 0 GetM told; then 1 GetS, 2 GetM, 3 GetS", 0},
		row{"0 Done", "0 Share", "owner 0; 1 GetS waits 1; then 2 GetM, 3 GetS", 0},
		row{"0 GetS", "", "owner 0; 1 GetS waits 1; then 2 GetM, 3 GetS, 0 GetS", 0},
		row{"0 Back", "1 DataS", "sharer 0, sharer 1; 1 GetS told; then 2 GetM, 3 GetS, 0 GetS", 7},
		row{"1 Done", "0 Drop, 1 Drop", "sharer 0, sharer 1; 2 GetM waits 2; then 3 GetS, 0 GetS", 0},
		row{"1 Ack", "", "sharer 0; 2 GetM waits 1; then 3 GetS, 0 GetS", 0},
		row{"0 Ack", "2 DataM", "owner 2; 2 GetM told; then 3 GetS, 0 GetS", 0},
		row{"2 Done", "2 Share", "owner 2; 3 GetS waits 1; then 0 GetS", 0},
		row{"2 Back", "3 DataS", "sharer 2, sharer 3; 3 GetS told; then 0 GetS", 12},
		row{"3 Done", "0 DataS", "sharer 0, sharer 2, sharer 3; 0 GetS told", 0},
		row{"0 Done", "", "sharer 0, sharer 2, sharer 3", 0},
	)
}

// TestP12_1WaitAlike has requests of one cache that wait more than once: each begins for itself.
func TestP12_1WaitAlike(t *testing.T) {
	steps(t,
		row{"0 GetS", "0 DataE", "owner 0; 0 GetS told", 0},
		row{"0 GetS", "", "owner 0; 0 GetS told; then 0 GetS", 0},
		row{"0 GetM", "", "owner 0; 0 GetS told; then 0 GetS, 0 GetM", 0},
		row{"0 GetM", "", "owner 0; 0 GetS told; then 0 GetS, 0 GetM, 0 GetM", 0},
		row{"0 Done", "0 DataE", "owner 0; 0 GetS told; then 0 GetM, 0 GetM", 0},
		row{"0 Done", "0 DataM", "owner 0; 0 GetM told; then 0 GetM", 0},
		row{"0 Done", "0 DataM", "owner 0; 0 GetM told", 0},
		row{"0 Done", "", "owner 0", 0},
	)
}

// TestP12_1PutWaits has MsgPuts that wait: the line is not busy by them, so what waits behind them begins at once, with the bytes that are memory's then.
func TestP12_1PutWaits(t *testing.T) {
	steps(t,
		row{"0 GetM", "0 DataM", "owner 0; 0 GetM told", 0},
		row{"0 Put", "", "owner 0; 0 GetM told; then 0 Put", 0},
		row{"1 GetS", "", "owner 0; 0 GetM told; then 0 Put, 1 GetS", 0},
		row{"2 Put", "", "owner 0; 0 GetM told; then 0 Put, 1 GetS, 2 Put", 0},
		row{"0 Done", "0 PutAck, 1 DataE", "owner 1; 1 GetS told; then 2 Put", 2},
		row{"1 Put", "", "owner 1; 1 GetS told; then 2 Put, 1 Put", 0},
		row{"3 Put", "", "owner 1; 1 GetS told; then 2 Put, 1 Put, 3 Put", 0},
		row{"1 Done", "2 PutAck, 1 PutAck, 3 PutAck", "nobody", 6},
	)
}

// TestP12_1PutWaitsTwice has an owner that gives back twice: the second time it is none any more.
func TestP12_1PutWaitsTwice(t *testing.T) {
	behind(t, owned("2"),
		row{"2 GetM", "2 DataM", "owner 2; 2 GetM told", 0},
		row{"2 Put", "", "owner 2; 2 GetM told; then 2 Put", 0},
		row{"2 Put", "", "owner 2; 2 GetM told; then 2 Put, 2 Put", 0},
		row{"1 GetM", "", "owner 2; 2 GetM told; then 2 Put, 2 Put, 1 GetM", 0},
		row{"3 GetM", "", "owner 2; 2 GetM told; then 2 Put, 2 Put, 1 GetM, 3 GetM", 0},
		row{"2 Done", "2 PutAck, 2 PutAck, 1 DataM", "owner 1; 1 GetM told; then 3 GetM", 4},
		row{"1 Done", "1 Yield", "owner 1; 3 GetM waits 1", 0},
	)
}

// TestP12_1OtherLines has messages of other lines while one is busy: they don't wait for it, and each line has its own.
func TestP12_1OtherLines(t *testing.T) {
	h := made(t, 64)
	take := func(kind api.MsgKind, from int, line uint32, number int, want string) {
		t.Helper()
		sent, err := h.Take(message(kind, from, line, number))
		if textsOf(sent) != want || err != api.OK {
			t.Errorf("%d %s of %d: sent is %q, %v, want %q", from, names()[kind], line, textsOf(sent), err, want)
		}
		for _, m := range sent {
			if m.Line != line {
				t.Errorf("%v is of another line than %d", m, line)
			}
		}
	}
	hold := func(wants ...string) {
		t.Helper()
		for line, want := range wants {
			if e, err := h.Entry(uint32(line)); entryText(e) != want || err != api.OK {
				t.Errorf("line %d is %q, %v, want %q", line, entryText(e), err, want)
			}
		}
	}
	take(api.MsgGetM, 0, 1, 0, "0 DataM")
	take(api.MsgGetM, 0, 2, 0, "0 DataM")
	take(api.MsgGetS, 1, 1, 0, "")
	take(api.MsgDone, 0, 2, 0, "")
	hold("nobody", "owner 0; 0 GetM told; then 1 GetS", "owner 0", "nobody")
	take(api.MsgGetS, 1, 2, 0, "0 Share")
	take(api.MsgGetS, 2, 3, 0, "2 DataE")
	take(api.MsgPut, 3, 0, 70, "3 PutAck")
	take(api.MsgBack, 0, 2, 71, "1 DataS")
	hold("nobody", "owner 0; 0 GetM told; then 1 GetS", "sharer 0, sharer 1; 1 GetS told", "owner 2; 2 GetS told")
	take(api.MsgDone, 0, 1, 0, "0 Share")
	take(api.MsgBack, 0, 1, 72, "1 DataS")
	take(api.MsgDone, 2, 3, 0, "")
	take(api.MsgPut, 2, 3, 73, "2 PutAck")
	hold("nobody", "sharer 0, sharer 1; 1 GetS told", "sharer 0, sharer 1; 1 GetS told", "nobody")
	for line, number := range []int{0, 72, 71, 73} {
		if got, _ := h.Memory().Line(uint32(line)); got != bytesOf(number) {
			t.Errorf("line %d has %v, want those of %d", line, got, number)
		}
	}
	if h.Idle() {
		t.Error("it is idle while two are busy")
	}
	take(api.MsgDone, 1, 1, 0, "")
	if h.Idle() {
		t.Error("it is idle while one is busy")
	}
	take(api.MsgDone, 1, 2, 0, "")
	if !h.Idle() {
		t.Error("it is not idle")
	}
}

// TestP12_1Queue has whole messages that wait, their bytes among them.
func TestP12_1Queue(t *testing.T) {
	h := made(t, 16)
	h.Take(message(api.MsgGetM, 3, 0, 0))
	var want []api.Msg
	for number := range 40 {
		m := message([]api.MsgKind{api.MsgPut, api.MsgGetS, api.MsgGetM}[number%3], number%4, 0, 500+number)
		want = append(want, m)
		if sent, err := h.Take(m); len(sent) > 0 || err != api.OK {
			t.Fatalf("%v: sent is %v, %v", m, sent, err)
		}
		if e, _ := h.Entry(0); !slices.Equal(e.Queue, want) {
			t.Fatalf("those wait: %v, want %v", e.Queue, want)
		}
	}
}

// TestP12_1ManyWait has very many that wait: a MsgDone has all of them begin.
func TestP12_1ManyWait(t *testing.T) {
	const many = 200000
	h := made(t, 16)
	h.Take(message(api.MsgGetM, 0, 0, 0))
	for number := range many {
		if sent, err := h.Take(message(api.MsgPut, number%4, 0, number)); len(sent) > 0 || err != api.OK {
			t.Fatalf("MsgPut %d: sent is %v, %v", number, sent, err)
		}
	}
	sent, err := h.Take(message(api.MsgDone, 0, 0, 0))
	if len(sent) != many || err != api.OK {
		t.Fatalf("behind MsgDone %d are sent, %v", len(sent), err)
	}
	for number, m := range sent {
		if want := (api.Msg{Kind: api.MsgPutAck, From: api.Home, To: number % 4}); m != want {
			t.Fatalf("message %d is %v, want %v", number, m, want)
		}
	}
	if got, _ := h.Memory().Line(0); got != bytesOf(0) {
		t.Errorf("it has %v, want the bytes of the owner's MsgPut", got)
	}
	if e, _ := h.Entry(0); entryText(e) != "nobody" || !h.Idle() {
		t.Errorf("it is %q, idle %v", entryText(e), h.Idle())
	}
}
