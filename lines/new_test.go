package lines_test

import (
	"math"
	"slices"
	"testing"

	"quadrille/api"
	"quadrille/lines"
)

// setsThatMayBe and waysThatMayBe are all of them.
func setsThatMayBe() []int { return []int{1, 2, 4, 8, 16, 32, 64} }
func waysThatMayBe() []int { return []int{1, 2, 3, 4, 5, 6, 7, 8} }

// numbersAbout is all numbers near those that may be, and some far from them.
func numbersAbout() []int {
	n := []int{math.MinInt, math.MinInt + 1, -1 << 32, -128, -64, -8, 192, 255, 256, 512, 1024, 1 << 31, 1 << 32, 1<<32 + 1, 1<<32 + 8, 1<<32 + 64, 1 << 62, math.MaxInt}
	for i := -5; i <= 130; i++ {
		n = append(n, i)
	}
	return n
}

func TestP10_1New(t *testing.T) {
	for _, sets := range numbersAbout() {
		for _, ways := range numbersAbout() {
			c, err := lines.New(sets, ways)
			if slices.Contains(setsThatMayBe(), sets) && slices.Contains(waysThatMayBe(), ways) {
				if c == nil || err != api.OK {
					t.Fatalf("New(%d, %d) is %v, %v", sets, ways, c, err)
				}
				hold(t, c)
			} else if c != nil || err != api.ErrArg {
				t.Fatalf("New(%d, %d) is %v, %v", sets, ways, c, err)
			}
		}
	}
}

// TestP10_1Room puts into each cache that may be as many lines as it has ways in all, and one more into each set.
func TestP10_1Room(t *testing.T) {
	for _, sets := range setsThatMayBe() {
		for _, ways := range waysThatMayBe() {
			c := made(t, sets, ways)
			var want []api.Line
			for number := range sets * ways {
				if err := c.Put(line(uint32(number), api.StateS)); err != api.OK {
					t.Fatalf("of %d sets of %d: line %d is %v", sets, ways, number, err)
				}
			}
			for set := range sets {
				if err := c.Put(line(uint32(sets*ways+set), api.StateS)); err != api.ErrSet {
					t.Fatalf("of %d sets of %d: one line too many in set %d is %v", sets, ways, set, err)
				}
				for way := range ways {
					want = append(want, line(uint32(way*sets+set), api.StateS))
				}
			}
			hold(t, c, want...)
		}
	}
}

// TestP10_1Apart has two caches that were made alike: neither has what is put into the other one.
func TestP10_1Apart(t *testing.T) {
	a, b := having(t, 2, 2, 1), made(t, 2, 2)
	hold(t, b)
	b.Put(line(2, api.StateM))
	hold(t, a, linesOf(1)...)
}

// changing is a cache of which one set is full, and the other one has a line.
func changing(t *testing.T) *lines.Lines { return having(t, 2, 3, 0, 1, 2, 4) }

// changes is ways in which it may go on, each of which leaves it another one.
func changes() map[string]func(c *lines.Lines) {
	return map[string]func(c *lines.Lines){
		"put behind":              func(c *lines.Lines) { c.Put(line(3, api.StateS)) },
		"put in place, the first": func(c *lines.Lines) { c.Put(line(0, api.StateM)) },
		"put in place, the last":  func(c *lines.Lines) { c.Put(line(4, api.StateM)) },
		"put in place, its bytes": func(c *lines.Lines) { c.Put(api.Line{Number: 2, State: api.StateS}) },
		"drop the first":          func(c *lines.Lines) { c.Drop(0) },
		"drop a middle one":       func(c *lines.Lines) { c.Drop(2) },
		"drop the last":           func(c *lines.Lines) { c.Drop(4) },
		"drop a set's only one":   func(c *lines.Lines) { c.Drop(1) },
		"drop all": func(c *lines.Lines) {
			for _, number := range []uint32{0, 1, 2, 4} {
				c.Drop(number)
			}
		},
		"drop and put": func(c *lines.Lines) { c.Drop(0); c.Put(line(6, api.StateE)) },
	}
}

func TestP10_1CopyGoesOnApart(t *testing.T) {
	was := linesOf(0, 2, 4, 1)
	for name, change := range changes() {
		for _, copyGoesOn := range []bool{false, true} {
			goesOn := changing(t)
			stays := goesOn.Copy()
			if stays == nil || stays == goesOn || !lines.Same(stays, goesOn) {
				t.Fatalf("Copy is %v", stays)
			}
			if copyGoesOn {
				goesOn, stays = stays, goesOn
			}
			change(goesOn)
			hold(t, stays, was...)
			if lines.Same(goesOn, stays) || lines.Same(stays, goesOn) {
				t.Errorf("%s: caches that went on apart are the same", name)
			}
			after := all(goesOn)
			for _, other := range changes() {
				other(stays)
			}
			hold(t, goesOn, after...)
		}
	}
}

// TestP10_1CopyHasItsRoom holds that a copy has as many sets and ways, and room where the other one has.
func TestP10_1CopyHasItsRoom(t *testing.T) {
	for _, sets := range setsThatMayBe() {
		for _, ways := range waysThatMayBe() {
			for _, some := range []int{0, 1, sets, sets*ways - 1, sets * ways} {
				c := made(t, sets, ways)
				for number := range some {
					c.Put(line(uint32(number), api.StateE))
				}
				first, second := c.Copy(), c.Copy()
				for number := some; number < sets*ways; number++ {
					if err := first.Put(line(uint32(number), api.StateE)); err != api.OK {
						t.Fatalf("of %d sets of %d: line %d of a copy is %v", sets, ways, number, err)
					}
				}
				for set := range sets {
					if err := first.Put(line(uint32(sets*ways+set), api.StateE)); err != api.ErrSet {
						t.Fatalf("of %d sets of %d: one line too many in set %d of a copy is %v", sets, ways, set, err)
					}
				}
				if first.Len() != sets*ways || c.Len() != some || !lines.Same(c, second) || !lines.Same(c.Copy().Copy(), c) {
					t.Fatalf("of %d sets of %d with %d: copies are not apart", sets, ways, some)
				}
			}
		}
	}
}

func TestP10_1Same(t *testing.T) {
	for _, r := range []struct {
		name string
		a, b *lines.Lines
		want bool
	}{
		{"without lines", made(t, 2, 2), made(t, 2, 2), true},
		{"one behind which all is gone", func() *lines.Lines { c := having(t, 2, 2, 1, 2, 3); c.Drop(2); c.Drop(3); c.Drop(1); return c }(), made(t, 2, 2), true},
		{"the same lines", changing(t), changing(t), true},
		{"the same in each set, between sets in another order", having(t, 2, 3, 0, 1, 2, 4), having(t, 2, 3, 1, 0, 2, 4), true},
		{"the same, by another way", func() *lines.Lines { c := having(t, 2, 3, 6, 0, 1, 2); c.Drop(6); c.Put(line(4, api.StateS)); return c }(), changing(t), true},
		{"all states", made(t, 1, 8, line(1, api.StateS), line(2, api.StateE), line(3, api.StateM)), made(t, 1, 8, line(1, api.StateS), line(2, api.StateE), line(3, api.StateM)), true},
		{"unlike orders, the first two", having(t, 2, 3, 0, 2, 4), having(t, 2, 3, 2, 0, 4), false},
		{"unlike orders, the last two", having(t, 2, 3, 0, 2, 4), having(t, 2, 3, 0, 4, 2), false},
		{"unlike orders, in the last set", having(t, 2, 3, 0, 1, 3), having(t, 2, 3, 0, 3, 1), false},
		{"unlike numbers", having(t, 2, 3, 0), having(t, 2, 3, 2), false},
		{"unlike numbers alone", made(t, 2, 3, api.Line{Number: 0, State: api.StateS}), made(t, 2, 3, api.Line{Number: 2, State: api.StateS}), false},
		{"unlike sets of one number", having(t, 2, 3, 0), having(t, 2, 3, 1), false},
		{"one line more", having(t, 2, 3, 0, 2), having(t, 2, 3, 0), false},
		{"one line more in the last set", having(t, 4, 3, 0, 3), having(t, 4, 3, 0), false},
		{"lines, and none", having(t, 2, 3, 0), made(t, 2, 3), false},
	} {
		if lines.Same(r.a, r.b) != r.want || lines.Same(r.b, r.a) != r.want {
			t.Errorf("%s: Same is not %v", r.name, r.want)
		}
		if !lines.Same(r.a, r.a) || !lines.Same(r.b, r.b) {
			t.Errorf("%s: one is not the same as itself", r.name)
		}
	}
}

// TestP10_1SameShape has caches without lines, and with one, of all Sets and Ways.
func TestP10_1SameShape(t *testing.T) {
	for _, put := range [][]api.Line{nil, linesOf(0), linesOf(most)} {
		for _, sets := range setsThatMayBe() {
			for _, ways := range waysThatMayBe() {
				for _, otherSets := range setsThatMayBe() {
					for _, otherWays := range waysThatMayBe() {
						want := sets == otherSets && ways == otherWays
						if lines.Same(made(t, sets, ways, put...), made(t, otherSets, otherWays, put...)) != want {
							t.Errorf("%d sets of %d, %d sets of %d with %d lines: Same is not %v", sets, ways, otherSets, otherWays, len(put), want)
						}
					}
				}
			}
		}
	}
}

// TestP10_1SameParts has caches that differ in a state, or in one byte of one line.
func TestP10_1SameParts(t *testing.T) {
	numbers := []uint32{0, 1, 2, 4}
	for _, number := range numbers {
		for _, state := range []api.State{api.StateE, api.StateM} {
			a, b := changing(t), changing(t)
			l, _ := b.Find(number)
			l.State = state
			b.Put(l)
			if lines.Same(a, b) || lines.Same(b, a) {
				t.Errorf("caches of which line %d has an unlike state are the same", number)
			}
		}
		for at := range api.LineBytes {
			a, b := changing(t), changing(t)
			l, _ := b.Find(number)
			l.Bytes[at] ^= 1 << (at % 8)
			b.Put(l)
			if lines.Same(a, b) || lines.Same(b, a) {
				t.Errorf("caches of which byte %d of line %d differs are the same", at, number)
			}
		}
	}
}

// TestNoCache calls all of each way in which there may be no cache.
func TestNoCache(t *testing.T) {
	for i, c := range none() {
		for _, number := range []uint32{0, 1, 3, most} {
			holdNone(t, c, number)
			holdNoVictim(t, c, number, 0, 1, -1, math.MaxInt, math.MinInt)
			if c.Drop(number) {
				t.Error("no cache", i, "drops", number)
			}
			for _, state := range append(states(), noStates()...) { // ahead of ErrArg
				if err := c.Put(line(number, state)); err != api.ErrNil {
					t.Errorf("no cache %d: Put of state %d is %v", i, state, err)
				}
			}
		}
		if c.All() == nil {
			t.Error("no cache", i, "has no All")
		}
		hold(t, c)
		if c.Copy() != nil {
			t.Error("no cache", i, "has a copy")
		}
		for _, some := range []*lines.Lines{made(t, 1, 1), made(t, 2, 2), having(t, 1, 1, 0)} {
			if lines.Same(c, some) || lines.Same(some, c) {
				t.Error("no cache", i, "is like a cache")
			}
		}
		for j, other := range none() {
			if !lines.Same(c, other) {
				t.Error("no cache", i, "is not like no cache", j)
			}
		}
	}
}
