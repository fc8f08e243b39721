package model_test

import (
	"reflect"
	"slices"
	"testing"

	"quadrille/api"
	"quadrille/model"
)

// arrows holds Arrows against pairs.
func arrows(t *testing.T, name string, x api.Execution, want []api.Pair) {
	t.Helper()
	if got, err := model.Arrows(x); err != api.OK || !slices.Equal(got, want) {
		t.Errorf("%s: Arrows is %v, %v, want %v", name, got, err, want)
	}
}

func TestP8_2Arrows(t *testing.T) {
	arrows(t, "no event", api.Execution{}, nil)
	arrows(t, "EvBegins alone", execution(), nil)
	arrows(t, "fences", execution(fence(3, 3), fence(3, 3)), nil)
	arrows(t, "program order alone", execution(load(wordX), load(wordY)), p(beginX, e0, beginY, e1))
	arrows(t, "Ppo", execution(aq(load(wordX)), load(wordY)), p(beginX, e0, beginY, e1, e0, e1))
	arrows(t, "Ppo over a fence", execution(load(wordX), fence(3, 3), load(wordY)), p(beginX, e0, beginY, e2, e0, e2))
	arrows(t, "Rf of the EvBegin", execution(of(2, load(wordZ))), p(beginZ, e0))
	arrows(t, "Rf of one hart", read(execution(store(wordX), load(wordX)), e1, e0), p(beginX, e0))
	arrows(t, "Rf of one hart, by Ppo", read(execution(both(wordX), load(wordX)), e1, e0), p(beginX, e0, e0, e1))
	arrows(t, "Rf of one hart, by Ppo of an sc", read(execution(sc(wordX), load(wordX)), e1, e0), p(beginX, e0, e0, e1))
	arrows(t, "Rf of two harts", read(execution(store(wordX), of(1, load(wordX))), e1, e0), p(beginX, e0, e0, e1))
	arrows(t, "Rf of two harts, backward", read(execution(load(wordX), of(1, store(wordX))), e0, e1), p(beginX, e1, e1, e0))
	arrows(t, "Co", execution(store(wordX), of(1, store(wordX)), of(2, store(wordX))), p(beginX, e0, beginX, e1, beginX, e2, e0, e1, e0, e2, e1, e2))
	arrows(t, "Co, backward", come(execution(store(wordX), of(1, store(wordX))), wordX, e1, e0), p(beginX, e0, beginX, e1, e1, e0))
	arrows(t, "Fr", execution(load(wordX), of(1, store(wordX)), of(2, store(wordX))),
		p(beginX, e0, beginX, e1, beginX, e2, e0, e1, e0, e2, e1, e2))
	arrows(t, "Fr, backward", execution(store(wordX), of(1, load(wordX))), p(beginX, e0, beginX, e1, e1, e0))
	arrows(t, "Fr of one hart, backward", execution(store(wordX), load(wordX)), p(beginX, e0, beginX, e1, e1, e0))
	arrows(t, "Fr to none, of an EvBoth to itself", execution(both(wordX)), p(beginX, e0))
}

// TestP8_2ArrowsOnce has arrows that two relations name, or three, or four.
func TestP8_2ArrowsOnce(t *testing.T) {
	arrows(t, "Rf, Co", execution(of(1, both(wordX))), p(beginX, e0))
	arrows(t, "Ppo, Co", execution(store(wordX), store(wordX)), p(beginX, e0, beginX, e1, e0, e1))
	arrows(t, "Ppo, Fr", execution(load(wordX), store(wordX)), p(beginX, e0, beginX, e1, e0, e1))
	arrows(t, "Ppo, Co, Fr", execution(both(wordX), store(wordX)), p(beginX, e0, beginX, e1, e0, e1))
	arrows(t, "Co, Fr", execution(both(wordX), of(1, store(wordX))), p(beginX, e0, beginX, e1, e0, e1))
	arrows(t, "Rf, Co, Fr", read(execution(both(wordX), of(1, both(wordX))), e1, e0), p(beginX, e0, beginX, e1, e0, e1))
	arrows(t, "Rf, Co, Fr, Ppo", read(execution(both(wordX), both(wordX)), e1, e0), p(beginX, e0, beginX, e1, e0, e1))
	arrows(t, "Ppo by rules 1, 4, 5, 6", execution(aq(load(wordX)), fence(3, 3), rl(store(wordX))), p(beginX, e0, beginX, e2, e0, e2))
}

// TestP8_2ArrowsRise has arrows of all relations in several harts and words, also in circles: they rise, whichever names them.
func TestP8_2ArrowsRise(t *testing.T) {
	x := come(read(execution(
		store(wordZ), fence(3, 3), load(wordX),
		of(1, aq(load(wordY))), of(1, store(wordX)),
		of(3, store(wordY)), of(3, load(wordZ)), of(3, store(wordZ)),
	), e3, e5, e6, e0), wordZ, e7, e0)
	arrows(t, "a circle", x, p(
		beginX, e2, // Rf
		beginX, e4, // Co
		beginY, e5, // Co
		beginZ, e0, beginZ, e7, // Co
		e0, e2, // Ppo
		e0, e6, // Rf
		e2, e4, // Fr
		e3, e4, // Ppo
		e5, e3, // Rf
		e6, e7, // Ppo
		e7, e0, // Co
	))
	if l, is := model.Global(x); is || l != nil {
		t.Errorf("Global of a circle is %v, %v", l, is)
	}
}

// TestP8_2Many has as many events as may be.
func TestP8_2Many(t *testing.T) {
	var l []api.Event
	for range api.MaxEvents - begins {
		l = append(l, store(wordX))
	}
	x := execution(l...)
	var want []api.Pair
	for a := range api.MaxEvents {
		for b := max(a+1, begins); b < api.MaxEvents; b++ {
			if a == beginX || a >= begins {
				want = append(want, api.Pair{A: a, B: b})
			}
		}
	}
	arrows(t, "stores of one hart", x, want)
	global(t, "stores of one hart", x, upTo(api.MaxEvents)...)
	hold(t, row{"stores of one hart", x, "coa"})
	slices.Reverse(x.Order[0][1:])
	hold(t, row{"backward", x, "a"})
	for i := range x.Events[begins:] {
		x.Events[begins+i].Kind = api.EvLoad
		x.From[begins+i], x.Order[0] = beginX, []int{beginX}
	}
	global(t, "loads of one hart", x, upTo(api.MaxEvents)...)
}

// upTo is the numbers from 0 on.
func upTo(n int) (l []int) {
	for number := range n {
		l = append(l, number)
	}
	return l
}

// global holds Global of one that is in order against its numbers.
func global(t *testing.T, name string, x api.Execution, want ...int) {
	t.Helper()
	if got, is := model.Global(x); !is || !slices.Equal(got, want) {
		t.Errorf("%s: Global is %v, %v, want %v", name, got, is, want)
	}
}

func TestP8_2Global(t *testing.T) {
	global(t, "no event", api.Execution{})
	global(t, "fences alone", api.Execution{Events: []api.Event{fence(3, 3), of(1, fence(1, 1))}, From: []int{-1, -1}})
	global(t, "EvBegins alone", execution(), beginX, beginY, beginZ)
	global(t, "EvBegins and fences", execution(fence(3, 3), fence(3, 3)), beginX, beginY, beginZ)
	global(t, "fences among others", execution(fence(3, 3), load(wordX), fence(3, 3), of(2, store(wordY)), of(2, fence(1, 1))), beginX, beginY, beginZ, e1, e3)
	global(t, "no arrows", execution(load(wordX), load(wordY), of(1, load(wordX)), of(2, store(wordZ))), beginX, beginY, beginZ, e0, e1, e2, e3)
	global(t, "all arrows forward", execution(aq(load(wordX)), load(wordX), store(wordX)), beginX, beginY, beginZ, e0, e1, e2)
	global(t, "it isn't coherent", execution(store(wordX), load(wordX)), beginX, beginY, beginZ, e1, e0)
	global(t, "it isn't atomic", come(execution(lr(wordX), sc(wordX), of(1, store(wordX))), wordX, e2, e1), beginX, beginY, beginZ, e0, e2, e1)
}

// TestP8_2First has more than one global order, and the first one is asked.
func TestP8_2First(t *testing.T) {
	global(t, "crossed", crossed(), beginX, beginY, beginZ, e1, e2, e3, e0)
	global(t, "passed", passed(), beginX, beginY, beginZ, e1, e2, e3, e0)
	global(t, "backward by Rf", read(execution(load(wordX), load(wordY), of(1, store(wordX))), e0, e2), beginX, beginY, beginZ, e1, e2, e0)
	global(t, "backward by Co", come(execution(store(wordX), load(wordY), of(1, store(wordX)), of(1, load(wordY))), wordX, e2, e0), beginX, beginY, beginZ, e1, e2, e0, e3)
	global(t, "backward by Fr", execution(store(wordX), store(wordY), of(1, load(wordX)), of(1, load(wordZ))), beginX, beginY, beginZ, e1, e2, e0, e3)
	global(t, "one that is let go goes at once", come(execution(store(wordX), of(1, store(wordX)), of(2, store(wordX)), of(3, store(wordY))), wordX, e2, e1, e0), beginX, beginY, beginZ, e2, e1, e0, e3)
	global(t, "what waits holds back what is behind it", come(execution(aq(load(wordY)), rl(store(wordX)), of(1, load(wordZ)), of(2, store(wordX))), wordX, e3, e1), beginX, beginY, beginZ, e0, e2, e3, e1)
	global(t, "fences that hold back", passedBehind(fence(3, 3), fence(0, 0)), beginX, beginY, beginZ, e5, e0, e2, e3)
	global(t, "without them", passedBehind(fence(0, 0), fence(0, 0)), beginX, beginY, beginZ, e2, e3, e5, e0)
}

// TestP8_2None has executions that are not in order: there is no global order of them.
func TestP8_2None(t *testing.T) {
	for _, x := range []api.Execution{
		backed(), crossed(fence(3, 3)), passedBehind(fence(1, 1), fence(2, 2)),
		come(execution(store(wordX), store(wordX)), wordX, e1, e0),
		come(execution(store(wordZ), store(wordZ), load(wordX), of(3, load(wordY))), wordZ, e1, e0), // most of it has an order
	} {
		if l, is := model.Global(x); is || l != nil {
			t.Errorf("%v: Global is %v, %v", x, l, is)
		}
		if l, err := model.Arrows(x); err != api.OK || len(l) == 0 {
			t.Errorf("%v: Arrows is %v, %v", x, l, err)
		}
	}
}

// TestP8_2Kept asks all calls: what they are handed stays, spare room behind it included, and what they answer is their own no more.
func TestP8_2Kept(t *testing.T) {
	spare := func(l []int) []int { return append(append(l, 77, 78), 79)[:len(l)] }
	x := come(execution(lr(wordX), datas(sc(wordX), e0), of(1, load(wordY)), of(1, store(wordX))), wordX, e3, e1)
	plain := copied(x)
	x.Events = append(x.Events, of(9, load(wordX)))[:len(x.Events)]
	x.From, x.Order = spare(x.From), append(x.Order, []int{80})[:len(x.Order)]
	for i := range x.Order {
		x.Order[i] = spare(x.Order[i])
	}
	x.Events[e1].Datas = spare(x.Events[e1].Datas)
	for range 2 {
		hold(t, row{"an sc that is spoilt", x, "co"})
		pairs, err := model.Arrows(x)
		if err != api.OK || !slices.Equal(pairs, p(beginX, e0, beginX, e1, beginX, e3, beginY, e2, e0, e1, e0, e3, e3, e1)) {
			t.Errorf("Arrows is %v, %v", pairs, err)
		}
		numbers, is := model.Global(x)
		if !is || !slices.Equal(numbers, []int{beginX, beginY, beginZ, e0, e2, e3, e1}) {
			t.Errorf("Global is %v, %v", numbers, is)
		}
		for i := range pairs {
			pairs[i] = api.Pair{A: 99, B: 99}
		}
		for i := range numbers {
			numbers[i] = 99
		}
	}
	if !reflect.DeepEqual(copied(x), plain) {
		t.Errorf("%v has changed, it was %v", x, plain)
	}
	many := len(plain.Events)
	if x.Events[:many+1][many].Hart != 9 || x.Order[:begins+1][begins][0] != 80 {
		t.Error("the room behind has changed")
	}
	for _, l := range [][]int{x.From, x.Order[0], x.Order[1], x.Order[2], x.Events[e1].Datas} {
		if !slices.Equal(l[len(l):len(l)+3], []int{77, 78, 79}) {
			t.Errorf("the room behind %v has changed", l)
		}
	}
}
