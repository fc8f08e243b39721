package net_test

import (
	"math/rand"
	"slices"
	"testing"

	"quadrille/api"
	"quadrille/net"
)

// retold is what the chapter says of a net, told again: all that was ever sent, and which of it has come.
type retold struct {
	most int
	sent []api.Msg
	came []bool
}

// places is where in all that was sent those stand that are on their way.
func (r *retold) places() []int {
	var at []int
	for i, came := range r.came {
		if !came {
			at = append(at, i)
		}
	}
	return at
}

func (r *retold) ready() []api.Msg {
	var ready []api.Msg
	for _, at := range r.places() {
		ready = append(ready, r.sent[at])
	}
	return ready
}

func (r *retold) send(m api.Msg) api.Errno {
	switch {
	case m.Kind == api.MsgNone:
		return api.ErrArg
	case len(r.places()) == r.most:
		return api.ErrNet
	}
	r.sent, r.came = append(r.sent, m), append(r.came, false)
	return api.OK
}

func (r *retold) deliver(pick int) (api.Msg, bool) {
	at := r.places()
	if len(at) == 0 {
		return api.Msg{}, false
	}
	chosen := at[choice(pick, len(at))]
	r.came[chosen] = true
	return r.sent[chosen], true
}

func (r *retold) copy() *retold {
	return &retold{r.most, slices.Clone(r.sent), slices.Clone(r.came)}
}

// pair is a net, and what is told again of it.
type pair struct {
	n *net.Net
	r *retold
}

// step does one call of a net and of what is told again, and holds one against the other.
func (p pair) step(t *testing.T, random *rand.Rand) {
	t.Helper()
	if random.Intn(2) == 0 {
		m := message(random.Intn(40)) // some are alike
		if random.Intn(10) == 0 {
			m.Kind = api.MsgNone
		}
		if got, want := p.n.Send(m), p.r.send(m); got != want {
			t.Fatalf("Send(%v) is %v, want %v", m, got, want)
		}
		return
	}
	pick := random.Intn(4000) - 2000
	got, gotIs := p.n.Deliver(pick)
	if want, is := p.r.deliver(pick); got != want || gotIs != is {
		t.Fatalf("Deliver(%d) is %v, %v, want %v, %v", pick, got, gotIs, want, is)
	}
}

// TestP11_4Walks holds nets over long ways against what the chapter says, told again; copies are made on the way, and each goes on by itself.
func TestP11_4Walks(t *testing.T) {
	for _, most := range []int{1, 2, 3, 7, 16, 100} {
		random := rand.New(rand.NewSource(int64(most)))
		pairs := []pair{{made(t, most), &retold{most: most}}}
		for i := range 3000 {
			p := pairs[random.Intn(len(pairs))]
			p.step(t, random)
			if random.Intn(50) == 0 {
				other := pair{p.n.Copy(), p.r.copy()}
				if len(pairs) < 6 {
					pairs = append(pairs, other)
				} else {
					pairs[random.Intn(len(pairs))] = other
				}
			}
			if i%10 != 0 {
				continue
			}
			for _, p := range pairs {
				hold(t, p.n, p.r.ready()...)
				if net.Same(p.n, pairs[0].n) != slices.Equal(p.r.ready(), pairs[0].r.ready()) {
					t.Errorf("Same is %v", net.Same(p.n, pairs[0].n))
				}
			}
			if t.Failed() {
				t.Fatalf("of %d, at step %d", most, i)
			}
		}
	}
}

// TestP11_4AllOrders delivers a few messages in each order that there is: each comes once, and the others stay in theirs.
func TestP11_4AllOrders(t *testing.T) {
	orders := 0
	var goOn func(n *net.Net, left, came []api.Msg)
	goOn = func(n *net.Net, left, came []api.Msg) {
		hold(t, n, left...)
		if len(left) == 0 {
			orders++
			for number := range 6 {
				if !slices.Contains(came, message(number)) {
					t.Errorf("%v: message %d never comes", came, number)
				}
			}
		}
		for at := range left {
			other := n.Copy()
			holdDeliver(t, other, at, left[at])
			goOn(other, slices.Concat(left[:at], left[at+1:]), append(slices.Clone(came), left[at]))
		}
		hold(t, n, left...)
	}
	goOn(having(t, 6, upTo(6)...), messages(upTo(6)...), nil)
	if orders != 720 {
		t.Errorf("there are %d orders", orders)
	}
}

// TestP11_4Once sends each message once over a net that is often full: what came, and what is still on its way, is what was sent, each once.
func TestP11_4Once(t *testing.T) {
	for _, most := range []int{1, 2, 5, 1024} {
		random := rand.New(rand.NewSource(int64(most) + 100))
		n, sent := made(t, most), 0
		count := make([]int, 5000)
		for step := 0; sent < len(count); step++ {
			if step > 100*len(count) {
				t.Fatalf("on one of %d: so far %d were sent, it goes on no more", most, sent)
			}
			if random.Intn(3) > 0 && n.Send(message(sent)) == api.OK {
				sent++
			}
			if random.Intn(3) == 0 {
				if m, is := n.Deliver(int(random.Uint64())); is {
					count[m.Line]++
				}
			}
		}
		for _, m := range n.Ready() {
			count[m.Line]++
		}
		for number, times := range count {
			if times != 1 {
				t.Errorf("on one of %d: message %d is there %d times", most, number, times)
			}
		}
	}
}
