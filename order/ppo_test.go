package order_test

import (
	"reflect"
	"slices"
	"testing"

	"quadrille/api"
	"quadrille/order"
)

// p makes pairs of numbers by twos.
func p(numbers ...int) (l []api.Pair) {
	for two := range slices.Chunk(numbers, 2) {
		l = append(l, api.Pair{A: two[0], B: two[1]})
	}
	return l
}

// ppo holds Ppo against pairs.
func ppo(t *testing.T, x api.Execution, want []api.Pair) {
	t.Helper()
	if got, err := order.Ppo(x); err != api.OK || !slices.Equal(got, want) {
		t.Errorf("Ppo is %v, %v, want %v", got, err, want)
	}
}

func TestP7_2Ppo(t *testing.T) {
	ppo(t, one(), nil)
	ppo(t, one(load(wordX), load(wordY), of(1, store(wordX))), nil)
	ppo(t, one(load(wordX), store(wordX)), p(e0, e1))
	ppo(t, one(load(wordX), fence(3, 3), store(wordY)), p(e0, e2))
	ppo(t, one(aq(load(wordX)), load(wordY), store(wordZ)), p(e0, e1, e0, e2))
	ppo(t, one(load(wordX), load(wordY), rl(store(wordZ))), p(e0, e2, e1, e2))
	ppo(t, one(aq(load(wordX)), addrs(load(wordY), e0), rl(store(wordX)), of(2, lr(wordX)), of(2, sc(wordX)), of(3, load(wordX))),
		p(e0, e1, e0, e2, e1, e2, e3, e4))
}

// TestP7_2PpoHarts has pairs in several harts, some by more rules than one.
func TestP7_2PpoHarts(t *testing.T) {
	x := execution(reads{e5 + 1, e5},
		aq(load(wordX)), addrs(load(wordY), e0), fence(2, 1), store(wordZ),
		of(1, lr(wordY)), of(1, sc(wordY)), of(1, load(wordY)), of(1, store(wordX)),
		of(3, store(wordZ)), of(3, load(wordZ)))
	ppo(t, x, p(
		e0, e1, // 5, 9
		e0, e3, // 4, 5, 13
		e1, e3, // 4
		e4, e5, // 1, 8
		e5, e5+1, // 3
	))
}

// TestP7_2PpoMany has as many events as may be, and as many pairs.
func TestP7_2PpoMany(t *testing.T) {
	var l []api.Event
	for range api.MaxEvents - begins {
		l = append(l, aq(load(wordX)))
	}
	var want []api.Pair
	for a := begins; a < api.MaxEvents; a++ {
		for b := a + 1; b < api.MaxEvents; b++ {
			want = append(want, api.Pair{A: a, B: b})
		}
	}
	ppo(t, one(l...), want)
	if _, err := order.Ppo(one(append(l, load(wordX))...)); err != api.ErrLong {
		t.Errorf("one more: %v", err)
	}
}

func TestP7_2Paired(t *testing.T) {
	x := one(lr(wordX), sc(wordX), lr(wordX), store(wordX), sc(wordX), of(1, sc(wordX)), of(1, lr(wordY)), of(1, fence(3, 3)), of(1, load(wordY)), of(2, sc(wordY)), of(2, both(wordY)))
	want := map[int]int{e1: e0, e4: e2}
	for _, b := range append(wrongNumbers(0, len(x.Events)), beginX, beginY, e0, e1, e2, e3, e4, e5, e5+1, e5+2, e5+3, e5+4, e5+5) {
		load, is := order.Paired(x, b)
		if a, ok := want[b]; load != a || is != ok {
			t.Errorf("Paired of %d: %d, %v, want %d, %v", b, load, is, a, ok)
		}
	}
	for _, r := range []struct {
		name string
		x    api.Execution
		b    int
		load int // 0 is none
	}{
		{"two lrs", one(lr(wordX), lr(wordX), sc(wordX)), e2, e1},
		{"far", one(lr(wordY), lr(wordX), load(wordX), fence(1, 1), both(wordX), sc(wordX)), e5, e1},
		{"an lr of another word between", one(lr(wordX), lr(wordY), sc(wordX)), e2, 0},
		{"an sc between", one(lr(wordX), sc(wordX), sc(wordX)), e2, 0},
		{"an sc of another word between", one(lr(wordX), sc(wordY), sc(wordX)), e2, 0},
		{"another word", one(lr(wordX), sc(wordY)), e1, 0},
		{"another word, behind the pair's one", one(lr(wordY), sc(wordX), sc(wordY)), e2, 0},
		{"no lr", one(load(wordX), sc(wordX)), e1, 0},
		{"an EvBoth", one(both(wordX), sc(wordX)), e1, 0},
		{"an lr of another hart", one(lr(wordX), of(1, sc(wordX))), e1, 0},
		{"an lr behind it", one(sc(wordX), lr(wordX)), e0, 0},
		{"a store that is not Reserved", one(lr(wordX), store(wordX)), e1, 0},
		{"nothing ahead", one(sc(wordX)), e0, 0},
		{"two harts each", one(lr(wordX), sc(wordX), of(1, lr(wordX)), of(1, sc(wordX))), e3, e2},
	} {
		if load, is := order.Paired(r.x, r.b); load != r.load || is != (r.load != 0) {
			t.Errorf("%s: %d, %v", r.name, load, is)
		}
	}
}

// TestP7_3Fence has a fence of all in the midst of all kinds of events.
func TestP7_3Fence(t *testing.T) {
	kinds := func(addr uint32) []api.Event { return append(accesses(addr), lr(addr), sc(addr)) }
	x := one(slices.Concat(kinds(wordX), []api.Event{fence(3, 3)}, kinds(wordY))...)
	middle := e0 + len(kinds(wordX))
	got, err := order.Ppo(x)
	if err != api.OK {
		t.Fatal(err)
	}
	for a := e0; a < middle; a++ {
		for b := middle + 1; b < len(x.Events); b++ {
			if !slices.Contains(got, api.Pair{A: a, B: b}) {
				t.Errorf("%d is not kept ahead of %d", a, b)
			}
		}
	}
}

// TestP7_1Kept asks all calls: what they are handed stays, spare room behind it included, and what they answer is their own no more.
func TestP7_1Kept(t *testing.T) {
	spare := func(l []int) []int { return append(append(l, 77, 78), 79)[:len(l)] }
	x := one(lr(wordX), addrs(load(wordY), e0), datas(ctrls(sc(wordX), e0), e0, e1), of(1, load(wordX)))
	plain := copied(x)
	x.Events = append(x.Events, of(9, load(wordX)))[:len(x.Events)]
	x.From, x.Order = spare(x.From), append(x.Order, []int{80})[:len(x.Order)]
	for i := range x.Order {
		x.Order[i] = spare(x.Order[i])
	}
	x.Events[e2].Datas = spare(x.Events[e2].Datas)
	for range 2 {
		pairs, err := order.Ppo(x)
		if err != api.OK || !slices.Equal(pairs, p(e0, e1, e0, e2, e1, e2)) {
			t.Errorf("Ppo is %v, %v", pairs, err)
		}
		l, err := order.Rules(x, e0, e2)
		if err != api.OK || !slices.Equal(l, rules(1, 8, 10, 11, 13)) {
			t.Errorf("Rules are %v, %v", l, err)
		}
		order.Rule(x, 2, e0, e1)
		order.Paired(x, e2)
		for i := range pairs {
			pairs[i] = api.Pair{A: 99, B: 99}
		}
		for i := range l {
			l[i] = 99
		}
	}
	if !reflect.DeepEqual(copied(x), plain) {
		t.Errorf("%v has changed, it was %v", x, plain)
	}
	many := len(plain.Events)
	if x.Events[:many+1][many].Hart != 9 || x.Order[:4][3][0] != 80 {
		t.Error("the room behind has changed")
	}
	for _, l := range [][]int{x.From, x.Order[0], x.Order[1], x.Order[2], x.Events[e2].Datas} {
		if !slices.Equal(l[len(l):len(l)+3], []int{77, 78, 79}) {
			t.Errorf("the room behind %v has changed", l)
		}
	}
}
