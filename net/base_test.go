package net_test

import (
	"math"
	"slices"
	"testing"

	"quadrille/api"
	"quadrille/net"
)

// kind is what the chapter says of a kind of message.
type kind struct {
	kind        api.MsgKind
	home, bytes bool
}

// kinds is all of them, row by row.
func kinds() []kind {
	return []kind{
		{api.MsgGetS, true, false},
		{api.MsgGetM, true, false},
		{api.MsgPut, true, true},
		{api.MsgShare, false, false},
		{api.MsgYield, false, false},
		{api.MsgDrop, false, false},
		{api.MsgPutAck, false, false},
		{api.MsgDataS, false, true},
		{api.MsgDataE, false, true},
		{api.MsgDataM, false, true},
		{api.MsgBack, true, true},
		{api.MsgAck, true, false},
		{api.MsgDone, true, false},
	}
}

// noKinds is numbers that no kind of message has.
func noKinds() []api.MsgKind {
	return []api.MsgKind{api.MsgNone, -1, -2, -13, 14, 15, 16, 17, 255, 256, 257, 1<<32 + 1, math.MaxInt, math.MinInt, math.MinInt + 1}
}

// nodes is all nodes, and numbers about them that none has.
func nodes() []int {
	return []int{math.MinInt, math.MinInt + 4, -5, -4, -1, 0, 1, 2, 3, 4, 5, 8, 256, 1 << 32, 1<<32 + 4, math.MaxInt}
}

func isCache(node int) bool { return slices.Contains([]int{0, 1, 2, 3}, node) }

// message is one that may be, with bytes where its kind has some; those of unlike numbers are unlike.
func message(number int) api.Msg {
	k := kinds()[number%len(kinds())]
	m := api.Msg{Kind: k.kind, From: number % 4, To: api.Home, Line: uint32(number)}
	if !k.home {
		m.From, m.To = api.Home, number%4
	}
	if k.bytes {
		for i := range m.Bytes {
			m.Bytes[i] = byte(number + 17*i + 1)
		}
	}
	return m
}

// messages is those of some numbers.
func messages(numbers ...int) []api.Msg {
	var all []api.Msg
	for _, number := range numbers {
		all = append(all, message(number))
	}
	return all
}

// upTo is the numbers from 0 to one less than that.
func upTo(many int) []int {
	var numbers []int
	for number := range many {
		numbers = append(numbers, number)
	}
	return numbers
}

// made is a net on which some messages are sent.
func made(t *testing.T, most int, sent ...api.Msg) *net.Net {
	t.Helper()
	n, err := net.New(most)
	if n == nil || err != api.OK {
		t.Fatalf("New(%d) is %v, %v", most, n, err)
	}
	for _, m := range sent {
		if err := n.Send(m); err != api.OK {
			t.Fatalf("on one of %d: Send(%v) is %v", most, m, err)
		}
	}
	return n
}

// having is a net on which messages of some numbers are sent.
func having(t *testing.T, most int, numbers ...int) *net.Net {
	t.Helper()
	return made(t, most, messages(numbers...)...)
}

// hold holds all that a net tells against the messages that ought to be on their way, in their order.
func hold(t *testing.T, n *net.Net, want ...api.Msg) {
	t.Helper()
	if got := n.Ready(); !slices.Equal(got, want) {
		t.Errorf("on their way are %v, want %v", got, want)
	}
	if n.Len() != len(want) {
		t.Errorf("%d are on their way, want %d", n.Len(), len(want))
	}
	for _, node := range nodes() {
		var to []api.Msg
		for _, m := range want {
			if m.To == node {
				to = append(to, m)
			}
		}
		if got := n.To(node); !slices.Equal(got, to) {
			t.Errorf("to %d are %v, want %v", node, got, to)
		}
	}
}

// holdDeliver holds which message comes by a choice.
func holdDeliver(t *testing.T, n *net.Net, pick int, want api.Msg) {
	t.Helper()
	if got, is := n.Deliver(pick); got != want || !is {
		t.Errorf("Deliver(%d) is %v, %v, want %v", pick, got, is, want)
	}
}

// holdNoDeliver holds that none comes, whatever is chosen.
func holdNoDeliver(t *testing.T, n *net.Net) {
	t.Helper()
	for _, pick := range []int{0, 1, -1, 2, 5, math.MaxInt, math.MinInt} {
		if got, is := n.Deliver(pick); got != (api.Msg{}) || is {
			t.Errorf("Deliver(%d) is %v, %v, want none", pick, got, is)
		}
	}
}

// none is each way in which there may be no net.
func none() []*net.Net {
	refused, _ := net.New(0)
	return []*net.Net{nil, {}, new(net.Net), refused}
}

// TestExamples has the chapter's examples.
func TestExamples(t *testing.T) {
	if n, err := net.New(0); n != nil || err != api.ErrArg {
		t.Errorf("New(0) is %v, %v", n, err)
	}
	read := api.Msg{Kind: api.MsgGetS, From: 0, To: 4, Line: 3}
	write := api.Msg{Kind: api.MsgGetM, From: 1, To: 4, Line: 3}
	n := made(t, 2, read, write)
	for _, m := range []api.Msg{read, write, message(2)} {
		if err := n.Send(m); err != api.ErrNet {
			t.Errorf("Send(%v) on a full one is %v", m, err)
		}
	}
	holdDeliver(t, n, -1, write)
	holdDeliver(t, n, 5, read)
	holdNoDeliver(t, n)
	some := [api.LineBytes]byte{3: 1}
	for _, r := range []struct {
		m    api.Msg
		want api.Errno
	}{
		{api.Msg{Kind: api.MsgGetS, From: 4, To: 0}, api.ErrArg},
		{api.Msg{Kind: api.MsgDataS, From: 4, To: 2, Bytes: some}, api.OK},
		{api.Msg{Kind: api.MsgAck, From: 1, To: 4, Bytes: some}, api.ErrArg},
	} {
		if err := net.Check(r.m); err != r.want {
			t.Errorf("Check(%v) is %v, want %v", r.m, err, r.want)
		}
	}
}
