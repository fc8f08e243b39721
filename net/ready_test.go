package net_test

import (
	"slices"
	"testing"

	"quadrille/api"
	"quadrille/net"
)

func TestP11_3Ready(t *testing.T) {
	hold(t, made(t, 1))
	hold(t, having(t, 1, 5), message(5))
	hold(t, having(t, 26, upTo(26)...), messages(upTo(26)...)...)
	hold(t, having(t, 26, 25, 3, 24, 3, 0), messages(25, 3, 24, 3, 0)...)
	hold(t, having(t, 1024, upTo(1024)...), messages(upTo(1024)...)...)
}

// TestP11_3To has messages to each node, mixed.
func TestP11_3To(t *testing.T) {
	data := func(to int, line uint32) api.Msg { return api.Msg{Kind: api.MsgDataS, From: 4, To: to, Line: line} }
	done := func(from int, line uint32) api.Msg {
		return api.Msg{Kind: api.MsgDone, From: from, To: 4, Line: line}
	}
	n := made(t, 9, data(1, 9), done(0, 8), data(0, 7), data(1, 6), done(1, 5), done(0, 4), data(3, 3), data(1, 9), data(0, 1))
	for node, want := range map[int][]api.Msg{
		-1: nil,
		0:  {data(0, 7), data(0, 1)},
		1:  {data(1, 9), data(1, 6), data(1, 9)},
		2:  nil,
		3:  {data(3, 3)},
		4:  {done(0, 8), done(1, 5), done(0, 4)},
		5:  nil,
	} {
		if got := n.To(node); !slices.Equal(got, want) {
			t.Errorf("to %d are %v, want %v", node, got, want)
		}
	}
	if n.Len() != 9 {
		t.Error("To takes messages off: there are", n.Len())
	}
}

// TestP11_3Len has how many there are behind each call.
func TestP11_3Len(t *testing.T) {
	n := made(t, 3)
	for i, r := range []struct {
		call func()
		want int
	}{
		{func() {}, 0},
		{func() { n.Deliver(0) }, 0},
		{func() { n.Send(message(0)) }, 1},
		{func() { n.Send(message(0)) }, 2},
		{func() { n.Send(api.Msg{}) }, 2},
		{func() { n.Send(message(1)) }, 3},
		{func() { n.Send(message(2)) }, 3},
		{func() { n.Ready(); n.To(4); n.Copy() }, 3},
		{func() { n.Copy().Deliver(0) }, 3},
		{func() { n.Deliver(1) }, 2},
		{func() { n.Send(message(2)) }, 3},
		{func() { n.Deliver(2); n.Deliver(0); n.Deliver(-1) }, 0},
	} {
		r.call()
		if n.Len() != r.want {
			t.Errorf("behind call %d there are %d, want %d", i, n.Len(), r.want)
		}
	}
}

// told is all lists that a net tells: Ready, and To of each node.
func told(n *net.Net) [][]api.Msg {
	lists := [][]api.Msg{n.Ready()}
	for node := range api.Home + 1 {
		lists = append(lists, n.To(node))
	}
	return lists
}

// same tells whether lists of lists are the same.
func same(a, b [][]api.Msg) bool { return slices.EqualFunc(a, b, slices.Equal[[]api.Msg]) }

// TestP11_3AsTheyWere holds that what was told stays as it is, in whichever way the net goes on behind it.
func TestP11_3AsTheyWere(t *testing.T) {
	was := told(changing(t))
	for name, change := range changes() {
		n := changing(t)
		lists := told(n)
		change(n)
		if !same(lists, was) {
			t.Errorf("%s: what was told is %v, want %v", name, lists, was)
		}
		for _, other := range changes() {
			other(n)
		}
		if !same(lists, was) {
			t.Errorf("%s, and all others: what was told is %v, want %v", name, lists, was)
		}
	}
}

// spoil writes into a list, and into the room behind it.
func spoil(list []api.Msg) {
	for i := range list {
		list[i] = message(50 + i)
	}
	_ = append(list, message(60), message(61))
	behind := list[:cap(list)]
	for i := range behind {
		behind[i] = message(70 + i)
	}
}

// TestP11_3WrittenInto holds that a net stays as it is, and other lists do, whatever is written into what it told.
func TestP11_3WrittenInto(t *testing.T) {
	for name, change := range changes() {
		n := changing(t)
		change(n)
		want := n.Copy()
		for i := range told(n) {
			lists, others := told(n), told(n)
			spoil(lists[i])
			for j := range lists {
				if j != i && !slices.Equal(lists[j], others[j]) {
					t.Errorf("%s: list %d is as list %d is written into", name, j, i)
				}
			}
			if !same(others, told(want)) || !same(told(n), told(want)) || !net.Same(n, want) {
				t.Errorf("%s: the net, or another list, is as list %d is written into", name, i)
			}
			n.Send(message(80))
			if !same(others, told(want)) {
				t.Errorf("%s: what is sent goes into a list that was told", name)
			}
			n = want.Copy()
		}
	}
}

// TestP11_3RoomBehind writes behind what was told, then sends: neither goes over the other.
func TestP11_3RoomBehind(t *testing.T) {
	for many := range 20 {
		n := having(t, 24, upTo(many)...)
		list := n.Ready()
		longer := append(list, message(90))
		n.Send(message(91))
		more := append(n.Ready(), message(92))
		hold(t, n, messages(append(upTo(many), 91)...)...)
		if !slices.Equal(longer, messages(append(upTo(many), 90)...)) || !slices.Equal(more, messages(append(upTo(many), 91, 92)...)) {
			t.Errorf("with %d: what is sent goes over what is written behind the list, %v, %v", many, longer, more)
		}
	}
}
