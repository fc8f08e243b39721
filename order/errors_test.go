package order_test

import (
	"math"
	"testing"

	"quadrille/api"
	"quadrille/order"
)

// call is what is asked of an execution, and what is answered.
type call struct {
	name       string
	x          api.Execution
	rule, a, b int
	want       api.Errno
}

// refuse holds calls against their errors; beside one there is nothing.
func refuse(t *testing.T, calls ...call) {
	t.Helper()
	for _, c := range calls {
		if holds, err := order.Rule(c.x, c.rule, c.a, c.b); err != c.want || err != api.OK && holds {
			t.Errorf("%s: Rule %d of %d, %d: %v, %v, want %v", c.name, c.rule, c.a, c.b, holds, err, c.want)
		}
		if c.rule < 1 || c.rule > lastRule {
			continue
		}
		if l, err := order.Rules(c.x, c.a, c.b); err != c.want || err != api.OK && l != nil {
			t.Errorf("%s: Rules of %d, %d: %v, %v, want %v", c.name, c.a, c.b, l, err, c.want)
		}
	}
}

// broken is executions that may not be, by layer 6's errors. In each, what would hold is not to be seen.
func broken() map[api.Errno]api.Execution {
	changed := func(change func(x *api.Execution)) api.Execution {
		x := one(aq(lr(wordX)), sc(wordX))
		change(&x)
		return x
	}
	return map[api.Errno]api.Execution{
		api.ErrLong: changed(func(x *api.Execution) {
			for len(x.Events) <= api.MaxEvents {
				x.Events, x.From = append(x.Events, load(wordX)), append(x.From, beginX)
			}
		}),
		api.ErrEvent: changed(func(x *api.Execution) { x.Events[beginY].Rl = true }),
		api.ErrFrom:  changed(func(x *api.Execution) { x.From[e0] = beginY }),
		api.ErrOrder: changed(func(x *api.Execution) { x.Order[2] = nil }),
	}
}

// wrongNumbers tells numbers that are not among n from first on.
func wrongNumbers(first, n int) []int {
	return []int{first - 1, first + n, math.MinInt, math.MaxInt, -1 << 32, 1 << 32}
}

func TestP7_1Range(t *testing.T) {
	x := one(aq(lr(wordX)), sc(wordX))
	many := len(x.Events)
	refuse(t,
		call{"all are there", x, 8, e0, e1, api.OK},
		call{"the first rule, the first event", x, 1, 0, 0, api.OK},
		call{"the last rule, the last event", x, lastRule, many - 1, many - 1, api.OK},
	)
	for _, rule := range wrongNumbers(1, lastRule) {
		refuse(t, call{"no such rule", x, rule, e0, e1, api.ErrRange})
	}
	for _, number := range wrongNumbers(0, many) {
		refuse(t,
			call{"no such a", x, 8, number, e1, api.ErrRange},
			call{"no such b", x, 8, e0, number, api.ErrRange},
			call{"neither", x, 8, number, number, api.ErrRange},
			call{"nothing is there", x, 0, number, number, api.ErrRange},
		)
	}
}

// TestP7_1NoEvent has no event, told by nil and by empty lists.
func TestP7_1NoEvent(t *testing.T) {
	for _, x := range []api.Execution{{}, {Events: []api.Event{}, From: []int{}, Order: [][]int{}}} {
		for _, number := range []int{0, 1, -1} {
			refuse(t,
				call{"no event", x, 1, number, number, api.ErrRange},
				call{"no event, no rule", x, 0, number, number, api.ErrRange},
			)
		}
		if l, err := order.Ppo(x); err != api.OK || len(l) != 0 {
			t.Errorf("no event: Ppo %v, %v", l, err)
		}
		if load, is := order.Paired(x, 0); is || load != 0 {
			t.Errorf("no event: Paired %d, %v", load, is)
		}
	}
	refuse(t, call{"no event, From of one number", api.Execution{From: []int{-1}}, 0, 0, 0, api.ErrFrom})
}

// TestP7_1MayNotBe has layer 6's errors ahead of those of this one.
func TestP7_1MayNotBe(t *testing.T) {
	for want, x := range broken() {
		refuse(t, call{"what would hold", x, 8, e0, e1, want})
		for _, rule := range wrongNumbers(1, lastRule) {
			refuse(t, call{"no such rule", x, rule, e0, e1, want})
		}
		for _, number := range wrongNumbers(0, len(x.Events)) {
			refuse(t,
				call{"no such a", x, 1, number, e1, want},
				call{"no such b", x, 1, e0, number, want},
				call{"nothing is there", x, 0, number, number, want},
			)
		}
	}
}

func TestP7_2MayNotBe(t *testing.T) {
	for want, x := range broken() {
		if l, err := order.Ppo(x); err != want || l != nil {
			t.Errorf("Ppo %v, %v, want %v", l, err, want)
		}
		for _, b := range append(wrongNumbers(0, len(x.Events)), e0, e1) {
			if load, is := order.Paired(x, b); is || load != 0 {
				t.Errorf("%v: Paired of %d: %d, %v", want, b, load, is)
			}
		}
	}
}
