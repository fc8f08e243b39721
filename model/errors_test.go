package model_test

import (
	"math"
	"testing"

	"quadrille/api"
	"quadrille/events"
	"quadrille/model"
)

// refuse holds all calls of an execution that may not be: beside the error there is nothing.
func refuse(t *testing.T, name string, x api.Execution, want api.Errno) {
	t.Helper()
	if err := events.Check(x); err != want {
		t.Errorf("%s: Check is %v, want %v", name, err, want)
	}
	if v, err := model.Judge(x); err != want || v != (api.Verdict{}) {
		t.Errorf("%s: Judge is %v, %v, want %v", name, v, err, want)
	}
	if is, err := model.Allowed(x); err != want || is {
		t.Errorf("%s: Allowed is %v, %v, want %v", name, is, err, want)
	}
	if l, err := model.Arrows(x); err != want || l != nil {
		t.Errorf("%s: Arrows is %v, %v, want %v", name, l, err, want)
	}
	if l, is := model.Global(x); is || l != nil {
		t.Errorf("%s: Global is %v, %v", name, l, is)
	}
}

// wrongs are changes after which an execution may not be, and the error of each: the last one is told ahead of the others.
var wrongs = []struct {
	name   string
	change func(x *api.Execution)
	want   api.Errno
}{
	{"Order", func(x *api.Execution) { x.Order[2] = nil }, api.ErrOrder},
	{"From", func(x *api.Execution) { x.From[e0] = beginY }, api.ErrFrom},
	{"an event", func(x *api.Execution) { x.Events[beginY].Rl = true }, api.ErrEvent},
	{"too many", func(x *api.Execution) {
		for len(x.Events) <= api.MaxEvents {
			x.Events, x.From = append(x.Events, load(wordX)), append(x.From, beginX)
		}
	}, api.ErrLong},
}

// TestP8_1MayNotBe has each error by itself, and all that may be together, of an execution that would be allowed.
func TestP8_1MayNotBe(t *testing.T) {
	all := execution(load(wordX), store(wordX))
	hold(t, row{"as it is", all, "coa"})
	for _, wrong := range wrongs {
		x := execution(load(wordX), store(wordX))
		wrong.change(&x)
		refuse(t, wrong.name, x, wrong.want)
		wrong.change(&all)
		refuse(t, "also "+wrong.name, all, wrong.want)
	}
}

// TestP8_1MayNotBeEither has those that would be none of the three.
func TestP8_1MayNotBeEither(t *testing.T) {
	for _, wrong := range wrongs {
		x := execution(both(wordX), of(1, both(wordX)))
		hold(t, row{"as it is", x, ""})
		wrong.change(&x)
		refuse(t, wrong.name, x, wrong.want)
	}
}

// TestP8_1WrongNumbers has numbers that nothing has, in all that has numbers.
func TestP8_1WrongNumbers(t *testing.T) {
	x := execution(load(wordX), store(wordX), of(1, load(wordX)))
	many := len(x.Events)
	for _, number := range []int{-2, many, math.MinInt, math.MaxInt, 1 << 32, -1 << 32} {
		for i := range x.From {
			wrong := copied(x)
			wrong.From[i] = number
			refuse(t, "From", wrong, api.ErrFrom)
		}
		for word := range x.Order {
			wrong := copied(x)
			wrong.Order[word][len(wrong.Order[word])-1] = number
			refuse(t, "Order", wrong, api.ErrOrder)
		}
		for i := range x.Events {
			wrong := copied(x)
			wrong.Events[i].Hart = number
			refuse(t, "a hart", wrong, api.ErrEvent)
			wrong = copied(x)
			wrong.Events[i].Kind = api.EventKind(number)
			refuse(t, "a Kind", wrong, api.ErrEvent)
			wrong = copied(x)
			wrong.Events[i].Ctrls = []int{number}
			refuse(t, "a dep", wrong, api.ErrEvent)
		}
	}
	refuse(t, "From of nothing", api.Execution{From: []int{-1}}, api.ErrFrom)
	refuse(t, "Order of nothing", api.Execution{Order: [][]int{{}}}, api.ErrOrder)
	refuse(t, "an event of nothing", api.Execution{Events: []api.Event{{}}, From: []int{-1}}, api.ErrEvent)
	refuse(t, "huge", api.Execution{Events: make([]api.Event, 100000)}, api.ErrLong)
}
