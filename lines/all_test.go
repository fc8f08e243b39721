package lines_test

import (
	"slices"
	"testing"

	"quadrille/api"
)

// spread is numbers of which sets of four have three, none, one and two.
func spread() []uint32 { return []uint32{7, 4, 12, 2, 0, 3} }

// inOrder is the same, set by set.
func inOrder() []uint32 { return []uint32{4, 12, 0, 2, 7, 3} }

func TestP10_4All(t *testing.T) {
	hold(t, made(t, 1, 1))
	hold(t, made(t, 64, 8))
	hold(t, having(t, 4, 3, spread()...), linesOf(inOrder()...)...)
	hold(t, having(t, 1, 8, spread()...), linesOf(spread()...)...)
	hold(t, having(t, 64, 1, 63, 0, 31, 32), linesOf(0, 31, 32, 63)...)
	hold(t, having(t, 2, 1, 1), linesOf(1)...)
	if made(t, 2, 2).All() == nil {
		t.Error("a cache without lines has no All")
	}
}

// TestP10_4Len has the number of lines behind each call.
func TestP10_4Len(t *testing.T) {
	c := made(t, 2, 2)
	for i, r := range []struct {
		call func()
		want int
	}{
		{func() {}, 0},
		{func() { c.Put(line(0, api.StateS)) }, 1},
		{func() { c.Put(line(0, api.StateM)) }, 1},
		{func() { c.Put(line(1, api.StateS)) }, 2},
		{func() { c.Put(line(2, api.StateS)) }, 3},
		{func() { c.Put(line(4, api.StateS)) }, 3},
		{func() { c.Put(line(3, api.StateI)) }, 3},
		{func() { c.Put(line(3, api.StateS)) }, 4},
		{func() { c.Drop(5) }, 4},
		{func() { c.Victim(5, 0) }, 4},
		{func() { c.Drop(2) }, 3},
		{func() { c.Drop(0); c.Drop(1); c.Drop(3) }, 0},
	} {
		r.call()
		if c.Len() != r.want {
			t.Errorf("behind call %d there are %d lines, want %d", i, c.Len(), r.want)
		}
	}
}

// TestP10_4LeftEarly leaves All behind each line, and goes over it again.
func TestP10_4LeftEarly(t *testing.T) {
	c, want := having(t, 4, 3, spread()...), linesOf(inOrder()...)
	told := c.All()
	for many := range len(want) + 1 {
		var got []api.Line
		for l := range told { // going on when it is left would panic
			if len(got) == many {
				break
			}
			got = append(got, l)
		}
		if !slices.Equal(got, want[:many]) {
			t.Errorf("the first %d are %v, want %v", many, got, want[:many])
		}
		if again := slices.Collect(told); !slices.Equal(again, want) {
			t.Errorf("behind the first %d it tells %v, want %v", many, again, want)
		}
	}
	hold(t, c, want...)
}

// TestP10_4Within goes over one All within itself.
func TestP10_4Within(t *testing.T) {
	c, want := having(t, 4, 3, spread()...), linesOf(inOrder()...)
	told := c.All()
	at := 0
	for l := range told {
		if l != want[at] || !slices.Equal(slices.Collect(told), want) {
			t.Errorf("line %d is %v, want %v", at, l, want[at])
		}
		at++
	}
}

// TestP10_4AsItWas calls All, then changes the cache in each way; each All tells the lines as they were when it was called.
func TestP10_4AsItWas(t *testing.T) {
	was := linesOf(0, 2, 4, 1)
	for name, change := range changes() {
		c := changing(t)
		told := c.All()
		change(c)
		now := all(c)
		if slices.Equal(now, was) {
			t.Errorf("%s: All tells the lines as they were, behind the change", name)
		}
		for range 2 {
			if got := slices.Collect(told); !slices.Equal(got, was) {
				t.Errorf("%s: All tells %v, which was called ahead of it, want %v", name, got, was)
			}
		}
		hold(t, c, now...)
	}
}

// TestP10_4WhileItGoes changes the cache in each way at each line that All tells.
func TestP10_4WhileItGoes(t *testing.T) {
	was := linesOf(0, 2, 4, 1)
	for name, change := range changes() {
		for at := range was {
			c := changing(t)
			told := c.All()
			var got []api.Line
			for l := range told {
				if len(got) == at {
					change(c)
				}
				got = append(got, l)
			}
			if !slices.Equal(got, was) || !slices.Equal(slices.Collect(told), was) {
				t.Errorf("%s at line %d: All tells %v, want %v", name, at, got, was)
			}
		}
	}
	c := changing(t)
	for l := range c.All() { // each line is told, though all are dropped as they are
		if !c.Drop(l.Number) {
			t.Errorf("%d is told twice", l.Number)
		}
	}
	hold(t, c)
}

// TestP10_4EachItsOwn has Alls that were called at several times, which are gone over behind all of them.
func TestP10_4EachItsOwn(t *testing.T) {
	c := made(t, 2, 3)
	empty := c.All()
	c.Put(line(1, api.StateS))
	one := c.All()
	c.Put(line(1, api.StateM))
	changed := c.All()
	c.Put(line(0, api.StateE))
	two := c.All()
	c.Drop(1)
	left := c.All()
	for i, want := range [][]api.Line{nil, {line(1, api.StateS)}, {line(1, api.StateM)}, {line(0, api.StateE), line(1, api.StateM)}, {line(0, api.StateE)}} {
		if got := slices.Collect([]func(func(api.Line) bool){empty, one, changed, two, left}[i]); !slices.Equal(got, want) {
			t.Errorf("All %d tells %v, want %v", i, got, want)
		}
	}
}
