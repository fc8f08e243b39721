package net_test

import (
	"math"
	"slices"
	"testing"

	"quadrille/api"
	"quadrille/net"
)

func TestP11_1New(t *testing.T) {
	for _, most := range []int{1, 2, 3, 255, 256, 1023, 1024} {
		n, err := net.New(most)
		if n == nil || err != api.OK {
			t.Fatalf("New(%d) is %v, %v", most, n, err)
		}
		hold(t, n)
		holdNoDeliver(t, n)
	}
	for _, most := range []int{0, -1, -2, -1024, 1025, 1026, 2048, 1 << 31, 1 << 32, 1<<32 + 1, 1<<32 + 1024, math.MaxInt, math.MinInt, math.MinInt + 1} {
		if n, err := net.New(most); n != nil || err != api.ErrArg {
			t.Errorf("New(%d) is %v, %v", most, n, err)
		}
	}
}

// TestP11_1Apart has two nets that were made alike: neither has what is sent on the other one.
func TestP11_1Apart(t *testing.T) {
	a, b := having(t, 4, 1), made(t, 4)
	hold(t, b)
	b.Send(message(2))
	hold(t, a, message(1))
	hold(t, b, message(2))
}

// bytesOf is noughts, and each way in which one byte is none.
func bytesOf() [][api.LineBytes]byte {
	all := make([][api.LineBytes]byte, 1)
	for at := range api.LineBytes {
		for _, value := range []byte{1, 128, 255} {
			var bytes [api.LineBytes]byte
			bytes[at] = value
			all = append(all, bytes)
		}
	}
	return all
}

// holdCheck holds what Check and Send say of a message.
func holdCheck(t *testing.T, m api.Msg, want api.Errno) {
	t.Helper()
	if err := net.Check(m); err != want {
		t.Errorf("Check(%v) is %v, want %v", m, err, want)
	}
	n := having(t, 2, 1)
	if err := n.Send(m); err != want {
		t.Errorf("Send(%v) is %v, want %v", m, err, want)
	}
	if want == api.OK {
		hold(t, n, message(1), m)
	} else {
		hold(t, n, message(1))
	}
}

// TestP11_1CheckKinds has each kind from and to each node, with each bytes.
func TestP11_1CheckKinds(t *testing.T) {
	for _, k := range kinds() {
		for _, from := range nodes() {
			for _, to := range nodes() {
				for _, bytes := range bytesOf() {
					want := api.ErrArg
					fits := k.home && isCache(from) && to == 4 || !k.home && from == 4 && isCache(to)
					if fits && (k.bytes || bytes == bytesOf()[0]) {
						want = api.OK
					}
					holdCheck(t, api.Msg{Kind: k.kind, From: from, To: to, Line: 7, Bytes: bytes}, want)
				}
			}
		}
	}
}

func TestP11_1CheckNoKinds(t *testing.T) {
	for _, k := range noKinds() {
		for _, from := range nodes() {
			for _, to := range nodes() {
				for _, bytes := range bytesOf()[:2] {
					holdCheck(t, api.Msg{Kind: k, From: from, To: to, Bytes: bytes}, api.ErrArg)
				}
			}
		}
	}
	holdCheck(t, api.Msg{}, api.ErrArg)
}

// TestP11_1CheckLines has a message of any line: its number is never what may not be.
func TestP11_1CheckLines(t *testing.T) {
	for number := range 26 {
		for _, line := range []uint32{0, 1, 255, 256, 1<<28 - 1, 1 << 28, 1 << 31, math.MaxUint32} {
			m := message(number)
			m.Line = line
			holdCheck(t, m, api.OK)
			m.From, m.To = m.To, m.From
			holdCheck(t, m, api.ErrArg)
		}
	}
}

// changes is ways in which a net with the messages 0 to 3, on which five may be, goes on; each leaves it another one.
func changes() map[string]func(n *net.Net) {
	return map[string]func(n *net.Net){
		"send":                   func(n *net.Net) { n.Send(message(9)) },
		"send one that is there": func(n *net.Net) { n.Send(message(3)) },
		"deliver the first":      func(n *net.Net) { n.Deliver(0) },
		"deliver a middle one":   func(n *net.Net) { n.Deliver(1) },
		"deliver the last":       func(n *net.Net) { n.Deliver(3) },
		"deliver the first, send": func(n *net.Net) {
			n.Deliver(0)
			n.Send(message(10))
		},
		"deliver the last, send": func(n *net.Net) {
			n.Deliver(-1)
			n.Send(message(11))
		},
		"deliver the first, send it again": func(n *net.Net) {
			m, _ := n.Deliver(0)
			n.Send(m)
		},
		"deliver all": func(n *net.Net) {
			for n.Len() > 0 {
				n.Deliver(2)
			}
		},
		"deliver all, fill it again": func(n *net.Net) {
			for n.Len() > 0 {
				n.Deliver(0)
			}
			for number := range 5 {
				n.Send(message(20 + number))
			}
		},
	}
}

// changing is the net that goes on so.
func changing(t *testing.T) *net.Net { return having(t, 5, upTo(4)...) }

func TestP11_1CopyGoesOnApart(t *testing.T) {
	was := messages(upTo(4)...)
	for name, change := range changes() {
		for _, copyGoesOn := range []bool{false, true} {
			goesOn := changing(t)
			stays := goesOn.Copy()
			if stays == nil || stays == goesOn || !net.Same(stays, goesOn) {
				t.Fatalf("Copy is %v", stays)
			}
			if copyGoesOn {
				goesOn, stays = stays, goesOn
			}
			change(goesOn)
			hold(t, stays, was...)
			if net.Same(goesOn, stays) || net.Same(stays, goesOn) {
				t.Errorf("%s: nets that went on apart are the same", name)
			}
			after := goesOn.Ready()
			for _, other := range changes() {
				other(stays)
			}
			hold(t, goesOn, after...)
		}
	}
}

// TestP11_1CopyBehindDeliver copies a net off which the message of each place was delivered, then sends unlike ones on both, so long as there is room.
func TestP11_1CopyBehindDeliver(t *testing.T) {
	for many := 1; many <= 9; many++ {
		for at := range many {
			for _, room := range []int{0, 1, 2, 7, 8, 9} {
				a := having(t, many+room, upTo(many)...)
				holdDeliver(t, a, at, message(at))
				left := slices.Delete(messages(upTo(many)...), at, at+1)
				b := a.Copy()
				c := b.Copy()
				ofA, ofB := slices.Clone(left), slices.Clone(left)
				for i := range room + 1 {
					ofA, ofB = append(ofA, message(100+i)), append(ofB, message(200+i))
					if errA, errB := a.Send(message(100+i)), b.Send(message(200+i)); errA != api.OK || errB != api.OK {
						t.Fatal("Send is", errA, errB)
					}
				}
				hold(t, a, ofA...)
				hold(t, b, ofB...)
				hold(t, c, left...)
				for _, n := range []*net.Net{a, b} {
					if err := n.Send(message(1)); err != api.ErrNet {
						t.Errorf("%d, and one too many: Send is %v", many+room, err)
					}
				}
			}
		}
	}
}

// TestP11_1CopyHasItsBound holds that a copy takes as many messages as the net that was copied.
func TestP11_1CopyHasItsBound(t *testing.T) {
	for _, most := range []int{1, 2, 3, 10, 1023, 1024} {
		for _, some := range []int{0, 1, most / 2, most - 1, most} {
			n := having(t, most, upTo(some)...)
			first, second := n.Copy(), n.Copy()
			for number := some; number < most; number++ {
				if err := first.Send(message(number)); err != api.OK {
					t.Fatalf("on a copy of one of %d: message %d is %v", most, number, err)
				}
			}
			if err := first.Send(message(0)); err != api.ErrNet {
				t.Fatalf("on a full copy of one of %d: Send is %v", most, err)
			}
			hold(t, n, messages(upTo(some)...)...)
			if first.Len() != most || !net.Same(n, second) || !net.Same(n.Copy().Copy(), n) {
				t.Fatalf("of %d with %d: copies are not apart", most, some)
			}
		}
	}
}

func TestP11_1Same(t *testing.T) {
	for _, r := range []struct {
		name string
		a, b *net.Net
		want bool
	}{
		{"without messages", made(t, 3), made(t, 3), true},
		{"without messages, of unlike bounds", made(t, 3), made(t, 4), false},
		{"the same messages", having(t, 3, 1, 2), having(t, 3, 1, 2), true},
		{"the same messages, of unlike bounds", having(t, 3, 1, 2), having(t, 2, 1, 2), false},
		{"of the least bound and the greatest", made(t, 1), made(t, 1024), false},
		{"of the two greatest bounds", made(t, 1023), made(t, 1024), false},
		{"one message often", having(t, 3, 1, 1, 1), having(t, 3, 1, 1, 1), true},
		{"one message less often", having(t, 3, 1, 1, 1), having(t, 3, 1, 1), false},
		{"unlike orders, the first two", having(t, 3, 1, 2, 3), having(t, 3, 2, 1, 3), false},
		{"unlike orders, the last two", having(t, 3, 1, 2, 3), having(t, 3, 1, 3, 2), false},
		{"unlike orders, of all", having(t, 3, 1, 2, 3), having(t, 3, 3, 2, 1), false},
		{"unlike orders to unlike nodes", having(t, 3, 3, 7), having(t, 3, 7, 3), false},
		{"one message more", having(t, 3, 1, 2), having(t, 3, 1), false},
		{"one message more ahead", having(t, 3, 1, 2), having(t, 3, 2), false},
		{"messages, and none", having(t, 3, 1), made(t, 3), false},
		{"one off which all came", func() *net.Net { n := having(t, 3, 1, 2); n.Deliver(0); n.Deliver(0); return n }(), made(t, 3), true},
		{"one off which one came", func() *net.Net { n := having(t, 3, 1, 2, 3); n.Deliver(1); return n }(), having(t, 3, 1, 3), true},
		{"one whose message came and was sent again", func() *net.Net { n := having(t, 3, 1, 2); n.Deliver(0); n.Send(message(1)); return n }(), having(t, 3, 2, 1), true},
	} {
		if net.Same(r.a, r.b) != r.want || net.Same(r.b, r.a) != r.want {
			t.Errorf("%s: Same is not %v", r.name, r.want)
		}
		if !net.Same(r.a, r.a) || !net.Same(r.b, r.b) {
			t.Errorf("%s: one is not the same as itself", r.name)
		}
	}
}

// TestP11_1SameParts has nets of which one message differs in one part.
func TestP11_1SameParts(t *testing.T) {
	for at := range 3 {
		for name, change := range map[string]func(m *api.Msg){
			"kind": func(m *api.Msg) { m.Kind = api.MsgBack },
			"node": func(m *api.Msg) { m.From = 3 },
			"line": func(m *api.Msg) { m.Line = 1 << 31 },
		} {
			sent := make([]api.Msg, 3)
			for i := range sent {
				sent[i] = api.Msg{Kind: api.MsgPut, From: 1, To: 4}
			}
			a := made(t, 3, sent...)
			change(&sent[at])
			if b := made(t, 3, sent...); net.Same(a, b) || net.Same(b, a) {
				t.Errorf("nets of which message %d has another %s are the same", at, name)
			}
		}
		for byteAt := range api.LineBytes {
			sent := make([]api.Msg, 3)
			for i := range sent {
				sent[i] = api.Msg{Kind: api.MsgDataS, From: 4, To: 1}
			}
			a := made(t, 3, sent...)
			sent[at].Bytes[byteAt] ^= 1 << (byteAt % 8)
			if b := made(t, 3, sent...); net.Same(a, b) || net.Same(b, a) {
				t.Errorf("nets of which byte %d of message %d differs are the same", byteAt, at)
			}
			sent[at].Bytes[byteAt] = 0
			sent[at].To = 2
			if b := made(t, 3, sent...); net.Same(a, b) || net.Same(b, a) {
				t.Errorf("nets of which message %d goes to another node are the same", at)
			}
		}
	}
}

// TestNoNet calls all of each way in which there may be no net.
func TestNoNet(t *testing.T) {
	for i, n := range none() {
		for _, m := range append(messages(upTo(13)...), api.Msg{}, api.Msg{Kind: -1}, api.Msg{Kind: api.MsgGetS, From: 4}) { // ahead of ErrArg
			if err := n.Send(m); err != api.ErrNil {
				t.Errorf("no net %d: Send(%v) is %v", i, m, err)
			}
		}
		hold(t, n)
		holdNoDeliver(t, n)
		if n.Copy() != nil {
			t.Error("no net", i, "has a copy")
		}
		for _, some := range []*net.Net{made(t, 1), made(t, 1024), having(t, 1, 0)} {
			if net.Same(n, some) || net.Same(some, n) {
				t.Error("no net", i, "is like a net")
			}
		}
		for j, other := range none() {
			if !net.Same(n, other) {
				t.Error("no net", i, "is not like no net", j)
			}
		}
	}
}
