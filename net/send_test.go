package net_test

import (
	"math"
	"slices"
	"testing"

	"quadrille/api"
	"quadrille/net"
)

// TestP11_2Send sends as many as there may be, and one more.
func TestP11_2Send(t *testing.T) {
	for _, most := range []int{1, 2, 3, 64, 1023, 1024} {
		n := made(t, most)
		for number := range most {
			if err := n.Send(message(number)); err != api.OK {
				t.Fatalf("on one of %d: message %d is %v", most, number, err)
			}
			if n.Len() != number+1 {
				t.Fatalf("on one of %d: behind message %d there are %d", most, number, n.Len())
			}
		}
		for number := range 26 {
			if err := n.Send(message(number)); err != api.ErrNet {
				t.Errorf("on a full one of %d: Send is %v", most, err)
			}
		}
		hold(t, n, messages(upTo(most)...)...)
	}
}

// mayNotBe is messages that may not be, one of each cause.
func mayNotBe() []api.Msg {
	return []api.Msg{
		{},
		{Kind: api.MsgNone, From: 0, To: 4},
		{Kind: 14, From: 4, To: 0},
		{Kind: -1, From: 4, To: 0},
		{Kind: api.MsgGetS, From: 4, To: 0},
		{Kind: api.MsgGetS, From: -1, To: 4},
		{Kind: api.MsgGetS, From: 0, To: 3},
		{Kind: api.MsgDataE, From: 0, To: 4},
		{Kind: api.MsgDataE, From: 4, To: 4},
		{Kind: api.MsgDataE, From: 4, To: 5},
		{Kind: api.MsgDone, From: 0, To: 4, Bytes: [16]byte{15: 1}},
		{Kind: api.MsgDrop, From: 4, To: 0, Bytes: [16]byte{1}},
	}
}

// TestP11_2SendErrors sends messages that may not be on nets that are empty, have some, or are full: that they may not be comes first, and nothing is changed.
func TestP11_2SendErrors(t *testing.T) {
	for _, many := range []int{0, 1, 4, 5} {
		n := having(t, 5, upTo(many)...)
		for _, m := range mayNotBe() {
			if err := n.Send(m); err != api.ErrArg {
				t.Errorf("of 5 with %d: Send(%v) is %v", many, m, err)
			}
		}
		hold(t, n, messages(upTo(many)...)...)
	}
}

// choice tells which of some things a number chooses: by steps of so many, where it is near.
func choice(pick, things int) int {
	for pick < 0 {
		pick += things
	}
	for pick >= things {
		pick -= things
	}
	return pick
}

// TestP11_2Deliver delivers by each near choice of some messages.
func TestP11_2Deliver(t *testing.T) {
	for many := 1; many <= 9; many++ {
		for pick := -2*many - 1; pick <= 2*many+1; pick++ {
			n := having(t, 9, upTo(many)...)
			at := choice(pick, many)
			holdDeliver(t, n, pick, message(at))
			hold(t, n, slices.Delete(messages(upTo(many)...), at, at+1)...)
		}
	}
}

// TestP11_2DeliverFar delivers by choices that are far from how many there are.
func TestP11_2DeliverFar(t *testing.T) {
	for _, r := range []struct{ many, pick, at int }{
		{1, math.MaxInt, 0}, {1, math.MinInt, 0}, {1, math.MinInt + 1, 0},
		{2, math.MaxInt, 1}, {2, math.MinInt, 0}, {2, math.MinInt + 1, 1},
		{3, math.MaxInt, 1}, {3, math.MinInt, 1}, {3, math.MinInt + 1, 2}, // 2^63 is 2 modulo 3
		{5, math.MaxInt, 2}, {5, math.MinInt, 2}, {5, math.MinInt + 1, 3}, // 2^63 is 3 modulo 5
		{7, math.MaxInt, 0}, {7, math.MinInt, 6}, {7, math.MinInt + 1, 0}, // 2^63 is 1 modulo 7
		{10, 1 << 32, 6}, {10, -1 << 32, 4}, {3, 1 << 32, 1}, {3, -1 << 32, 2},
		{1023, math.MaxInt, 7}, {1023, math.MinInt, 1015}, // 2^63 is 8 modulo 1023
		{1024, math.MaxInt, 1023}, {1024, math.MinInt, 0}, {1024, -1, 1023}, {1024, 1024, 0}, {1024, 1023, 1023},
	} {
		n := having(t, r.many, upTo(r.many)...)
		holdDeliver(t, n, r.pick, message(r.at))
		hold(t, n, slices.Delete(messages(upTo(r.many)...), r.at, r.at+1)...)
	}
}

// TestP11_2DeliverAll delivers from the front, from the end and from between till none is left; each leaves room for one.
func TestP11_2DeliverAll(t *testing.T) {
	for _, pick := range []int{0, 1, 2, 3, 4, 7, -1, -2, -3, math.MaxInt, math.MinInt + 1} {
		n, left := having(t, 7, upTo(7)...), messages(upTo(7)...)
		for many := 7; many > 0; many-- {
			at := (pick%many + many) % many
			holdDeliver(t, n, pick, left[at])
			left = slices.Delete(left, at, at+1)
			hold(t, n, left...)
			full := n.Copy()
			for range 7 - len(left) {
				if err := full.Send(message(9)); err != api.OK {
					t.Errorf("there is no room behind Deliver(%d): %v", pick, err)
				}
			}
			if err := full.Send(message(9)); err != api.ErrNet {
				t.Errorf("there is more room than Deliver(%d) left: %v", pick, err)
			}
		}
		holdNoDeliver(t, n)
		hold(t, n)
	}
}

// TestP11_2Again fills a net again and again behind which all came off it, each time in another way.
func TestP11_2Again(t *testing.T) {
	for _, most := range []int{1, 2, 5} {
		n := made(t, most)
		for round := range 20 {
			for i := range most {
				if err := n.Send(message(round + i)); err != api.OK {
					t.Fatalf("on one of %d in round %d: Send is %v", most, round, err)
				}
			}
			if err := n.Send(message(0)); err != api.ErrNet {
				t.Fatalf("on a full one of %d in round %d: Send is %v", most, round, err)
			}
			left := n.Ready()
			for range most {
				at := round % len(left)
				holdDeliver(t, n, round, left[at])
				left = slices.Delete(left, at, at+1)
				hold(t, n, left...)
			}
			holdNoDeliver(t, n)
		}
	}
}

// TestP11_2Alike has messages that are alike: each is delivered for itself.
func TestP11_2Alike(t *testing.T) {
	m, other := message(2), message(3)
	n := made(t, 5, m, m, other, m, m)
	holdDeliver(t, n, 3, m)
	hold(t, n, m, m, other, m)
	holdDeliver(t, n, 0, m)
	hold(t, n, m, other, m)
	holdDeliver(t, n, 1, other)
	hold(t, n, m, m)
	if err := n.Send(m); err != api.OK {
		t.Error("Send of one that is on its way is", err)
	}
	for left := 2; left >= 0; left-- {
		holdDeliver(t, n, 5, m)
		hold(t, n, slices.Repeat([]api.Msg{m}, left)...)
	}
	holdNoDeliver(t, n)
}

// TestP11_2Value holds that what was sent is what comes, whatever becomes of the value that was handed in.
func TestP11_2Value(t *testing.T) {
	n := made(t, 2)
	m := message(2)
	n.Send(m)
	m.Line, m.Bytes = 77, [16]byte{}
	hold(t, n, message(2))
	got, _ := n.Deliver(0)
	if got != message(2) {
		t.Errorf("it is %v", got)
	}
	var none *net.Net
	if err := none.Send(api.Msg{}); err != api.ErrNil {
		t.Error("no net: Send is", err)
	}
}
