package lines_test

import (
	"math/rand"
	"slices"
	"testing"

	"quadrille/api"
	"quadrille/lines"
)

// retold is what the chapter says of a cache, told again: all lines in one list, by when they came.
type retold struct {
	sets, ways int
	came       []api.Line
}

func (r *retold) at(number uint32) int {
	for i, l := range r.came {
		if l.Number == number {
			return i
		}
	}
	return -1
}

// set is the lines of the set of a number.
func (r *retold) set(number uint32) []api.Line {
	var set []api.Line
	for _, l := range r.came {
		if int(l.Number)%r.sets == int(number)%r.sets {
			set = append(set, l)
		}
	}
	return set
}

func (r *retold) find(number uint32) (api.Line, bool) {
	if i := r.at(number); i >= 0 {
		return r.came[i], true
	}
	return api.Line{}, false
}

func (r *retold) put(l api.Line) api.Errno {
	i := r.at(l.Number)
	switch {
	case l.State < api.StateS || l.State > api.StateM:
		return api.ErrArg
	case i >= 0:
		r.came[i] = l
	case len(r.set(l.Number)) >= r.ways:
		return api.ErrSet
	default:
		r.came = append(r.came, l)
	}
	return api.OK
}

func (r *retold) drop(number uint32) bool {
	i := r.at(number)
	if i >= 0 {
		r.came = slices.Concat(r.came[:i], r.came[i+1:])
	}
	return i >= 0
}

func (r *retold) victim(number uint32, pick int) (api.Line, bool) {
	set := r.set(number)
	if r.at(number) >= 0 || len(set) < r.ways {
		return api.Line{}, false
	}
	return set[choice(pick, r.ways)], true
}

func (r *retold) all() []api.Line {
	var l []api.Line
	for set := range r.sets {
		l = append(l, r.set(uint32(set))...)
	}
	return l
}

// step does one call of a cache and of what is told again, and holds one against the other.
func step(t *testing.T, random *rand.Rand, c *lines.Lines, r *retold) {
	t.Helper()
	number := uint32(random.Intn(3 * r.sets * r.ways))
	if random.Intn(8) == 0 {
		number = most - number
	}
	switch pick := int(random.Uint64()); random.Intn(8) {
	case 0, 1, 2, 3:
		l := api.Line{Number: number, State: api.State(random.Intn(5))}
		random.Read(l.Bytes[:])
		if got, want := c.Put(l), r.put(l); got != want {
			t.Fatalf("Put(%v) is %v, want %v", l, got, want)
		}
	case 4, 5:
		if got, want := c.Drop(number), r.drop(number); got != want {
			t.Fatalf("Drop(%d) is %v, want %v", number, got, want)
		}
	case 6:
		got, gotIs := c.Find(number)
		if want, is := r.find(number); got != want || gotIs != is {
			t.Fatalf("Find(%d) is %v, %v, want %v, %v", number, got, gotIs, want, is)
		}
	case 7:
		got, gotIs := c.Victim(number, pick)
		if want, is := r.victim(number, pick); got != want || gotIs != is {
			t.Fatalf("Victim(%d, %d) is %v, %v, want %v, %v", number, pick, got, gotIs, want, is)
		}
	}
}

// TestP10_5Walks holds caches over long ways against what the chapter says, told again; copies and Alls on the way stay as they were.
func TestP10_5Walks(t *testing.T) {
	for _, sets := range setsThatMayBe() {
		for _, ways := range waysThatMayBe() {
			random := rand.New(rand.NewSource(int64(sets*10 + ways)))
			c, r := made(t, sets, ways), &retold{sets: sets, ways: ways}
			stays, told, was := c.Copy(), c.All(), []api.Line(nil)
			for i := range 600 {
				step(t, random, c, r)
				if i%20 == 0 {
					hold(t, c, r.all()...)
					hold(t, stays, was...)
					if got := slices.Collect(told); !slices.Equal(got, was) {
						t.Errorf("All tells %v, want %v", got, was)
					}
					if lines.Same(c, stays) != slices.Equal(r.all(), was) {
						t.Errorf("Same is %v of %v and %v", lines.Same(c, stays), r.all(), was)
					}
				}
				if i%60 == 0 {
					stays, told, was = c.Copy(), c.All(), r.all()
				}
				if t.Failed() {
					t.Fatalf("of %d sets of %d, at step %d", sets, ways, i)
				}
			}
		}
	}
}

// TestP10_5PutIsFound has a line that is put, while all others are put, dropped and sought.
func TestP10_5PutIsFound(t *testing.T) {
	for _, own := range []uint32{0, 5, 6, most} {
		l := line(own, api.StateM)
		c := made(t, 4, 3, l)
		others := []uint32{0, 1, 2, 3, 4, 5, 6, 7, 8, 9, 10, 11, 12, 13, 14, 15, most - 3, most - 2, most - 1, most}
		for i, number := range slices.Concat(others, others, others) {
			if number == own {
				continue
			}
			switch c.Put(line(number, states()[i%3])) {
			case api.ErrSet:
				victim, _ := c.Victim(number, i)
				if victim.Number != own {
					c.Drop(victim.Number)
				}
			case api.OK:
				if i%2 == 0 {
					c.Drop(number)
				}
			}
			if got, is := c.Find(own); got != l || !is {
				t.Fatalf("behind %d, line %d is %v, %v", number, own, got, is)
			}
		}
	}
}

// TestP10_5VictimMakesRoom drops the line that each choice says: then there is room, for one line.
func TestP10_5VictimMakesRoom(t *testing.T) {
	for _, sets := range setsThatMayBe() {
		for _, ways := range waysThatMayBe() {
			for _, pick := range picks() {
				c := made(t, sets, ways)
				for i := range ways {
					c.Put(line(uint32(i*sets), api.StateS))
				}
				comes := line(uint32(ways*sets), api.StateE)
				victim, is := c.Victim(comes.Number, pick)
				if !is || !c.Drop(victim.Number) {
					t.Fatalf("of %d sets of %d: there is no victim of %d, or it can't be dropped", sets, ways, pick)
				}
				holdNoVictim(t, c, comes.Number, pick)
				if err := c.Put(comes); err != api.OK {
					t.Fatalf("of %d sets of %d: behind Drop of a victim Put is %v", sets, ways, err)
				}
				if err := c.Put(victim); err != api.ErrSet {
					t.Fatalf("of %d sets of %d: there is room for the victim, too: %v", sets, ways, err)
				}
			}
		}
	}
}

// TestP10_5OtherSets has a set as it is, whatever is done in the others.
func TestP10_5OtherSets(t *testing.T) {
	for _, sets := range setsThatMayBe()[1:] {
		for own := range uint32(sets) {
			c := made(t, sets, 2)
			want := linesOf(own, own+uint32(sets))
			c.Put(want[0])
			c.Put(want[1])
			for number := range uint32(4 * sets) {
				if number%uint32(sets) == own {
					continue
				}
				c.Put(line(number, api.StateM))
				c.Put(line(number, api.StateE))
				c.Victim(number, int(number))
				if number%3 == 0 {
					c.Drop(number)
				}
			}
			var got []api.Line
			for l := range c.All() {
				if l.Number%uint32(sets) == own {
					got = append(got, l)
				}
			}
			if !slices.Equal(got, want) {
				t.Fatalf("of %d sets, set %d has %v, want %v", sets, own, got, want)
			}
			holdVictim(t, c, own+uint32(2*sets), 1, want[1])
		}
	}
}
