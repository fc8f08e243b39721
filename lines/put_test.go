package lines_test

import (
	"testing"

	"quadrille/api"
)

func TestP10_2FindNone(t *testing.T) {
	holdNone(t, made(t, 1, 1), 0, 1, most)
	c := having(t, 4, 2, 1, 5, 2)
	holdNone(t, c, 0, 3, 4, 6, 7, 9, 10, 257, 1<<16+1, 1<<31+1, 1<<31+5, most, most-2)
	hold(t, c, linesOf(1, 5, 2)...)
}

// TestP10_2Numbers has lines whose numbers differ in one bit, and the largest one; the sets are by their lowest bits.
func TestP10_2Numbers(t *testing.T) {
	var numbers []uint32
	for bit := 6; bit < 32; bit += 4 {
		numbers = append(numbers, 1<<bit|3)
	}
	hold(t, having(t, 64, 8, numbers...), linesOf(numbers...)...)
	hold(t, having(t, 1, 4, most, 0, 1<<31, 1<<31-1), linesOf(most, 0, 1<<31, 1<<31-1)...)
	hold(t, having(t, 2, 4, most, 0, 1<<31, 1<<31-1), linesOf(0, 1<<31, most, 1<<31-1)...)
	hold(t, having(t, 64, 1, most, 0, 1, 62), linesOf(0, 1, 62, most)...)
	hold(t, having(t, 4, 2, most, most-1, most-2, most-3, most-4, 7<<29, 5), linesOf(most-3, 7<<29, most-2, 5, most-1, most, most-4)...)
	c := having(t, 64, 1, most)
	if err := c.Put(line(63, api.StateS)); err != api.ErrSet {
		t.Error("Put(63) beside the largest number is", err)
	}
	if !c.Drop(most) || c.Drop(most) {
		t.Error("the largest number is not dropped, or dropped twice")
	}
	hold(t, c)
}

// TestP10_2PutStates has lines of each state where the set has room, where it is full, and where it has the line.
func TestP10_2PutStates(t *testing.T) {
	for _, state := range states() {
		c := having(t, 2, 2, 0, 1)
		if err := c.Put(line(2, state)); err != api.OK {
			t.Errorf("Put of state %d is %v", state, err)
		}
		hold(t, c, line(0, api.StateS), line(2, state), line(1, api.StateS))
		if err := c.Put(line(4, state)); err != api.ErrSet {
			t.Errorf("Put of state %d into a full set is %v", state, err)
		}
		hold(t, c, line(0, api.StateS), line(2, state), line(1, api.StateS))
		if err := c.Put(line(0, state)); err != api.OK {
			t.Errorf("Put of state %d in a place of a full set is %v", state, err)
		}
		hold(t, c, line(0, state), line(2, state), line(1, api.StateS))
	}
	for _, state := range noStates() {
		c := having(t, 2, 2, 0, 2, 1)
		for _, number := range []uint32{0, 2, 4, 1, 3, most} { // ErrArg ahead of ErrSet, too
			if err := c.Put(line(number, state)); err != api.ErrArg {
				t.Errorf("Put of state %d at %d is %v", state, number, err)
			}
		}
		hold(t, c, linesOf(0, 2, 1)...)
	}
}

// TestP10_2PutInPlace puts a line where its number is already, at each place of sets that have room and of full ones.
func TestP10_2PutInPlace(t *testing.T) {
	for _, ways := range waysThatMayBe() {
		for many := 1; many <= ways; many++ {
			for at := range many {
				c := made(t, 4, ways, line(1, api.StateS))
				want := []api.Line{}
				for i := range many {
					want = append(want, line(uint32(4*i), api.StateS))
					c.Put(want[i])
				}
				for _, l := range []api.Line{line(uint32(4*at), api.StateM), line(uint32(4*at), api.StateE), {Number: uint32(4 * at), State: api.StateE}, {Number: uint32(4 * at), State: api.StateS}} {
					if err := c.Put(l); err != api.OK {
						t.Errorf("of %d ways, with %d: Put at %d is %v", ways, many, at, err)
					}
					want[at] = l
					hold(t, c, append(want[:many:many], line(1, api.StateS))...)
				}
			}
		}
	}
}

// TestP10_2PutBehind puts lines one by one, whose numbers neither rise nor fall.
func TestP10_2PutBehind(t *testing.T) {
	c := made(t, 2, 8)
	even, odd := []uint32{}, []uint32{}
	for _, number := range []uint32{8, 5, 2, 12, 1, 7, 0, 1 << 31, 3, most - 1, most, 6, 11, 9} {
		if number%2 == 0 {
			even = append(even, number)
		} else {
			odd = append(odd, number)
		}
		if err := c.Put(line(number, api.StateS)); err != api.OK {
			t.Errorf("Put(%d) is %v", number, err)
		}
		hold(t, c, append(linesOf(even...), linesOf(odd...)...)...)
	}
}

// TestP10_2Full has a set that is full, beside one with room.
func TestP10_2Full(t *testing.T) {
	for _, ways := range waysThatMayBe() {
		c := made(t, 2, ways, line(1, api.StateE))
		var want []api.Line
		for i := range ways {
			want = append(want, line(uint32(2*i), api.StateM))
			c.Put(want[i])
		}
		want = append(want, line(1, api.StateE))
		for _, number := range []uint32{uint32(2 * ways), uint32(2*ways + 2), most - 1} {
			if err := c.Put(line(number, api.StateS)); err != api.ErrSet {
				t.Errorf("of %d ways: Put(%d) into a full set is %v", ways, number, err)
			}
			holdNone(t, c, number)
			hold(t, c, want...)
		}
		if ways > 1 {
			if err := c.Put(line(3, api.StateS)); err != api.OK {
				t.Errorf("of %d ways: Put into the other set is %v", ways, err)
			}
			hold(t, c, append(want, line(3, api.StateS))...)
		}
	}
}

// TestP10_2Drop drops the line of each place, twice, of sets that are full or not; then it comes again, behind the others.
func TestP10_2Drop(t *testing.T) {
	for _, ways := range waysThatMayBe() {
		for many := 1; many <= ways; many++ {
			for at := range many {
				var even []uint32
				for i := range many {
					even = append(even, uint32(2*i))
				}
				number := even[at]
				c := having(t, 2, ways, append(even, 1)...)
				left := append(even[:at:at], even[at+1:]...)
				if !c.Drop(number) {
					t.Errorf("of %d ways, with %d: there is no %d to drop", ways, many, number)
				}
				for range 2 {
					holdNone(t, c, number)
					hold(t, c, linesOf(append(left, 1)...)...)
					if c.Drop(number) {
						t.Errorf("of %d ways, with %d: %d is dropped twice", ways, many, number)
					}
				}
				if err := c.Put(line(number, api.StateS)); err != api.OK {
					t.Errorf("of %d ways, with %d: Put(%d) behind Drop is %v", ways, many, number, err)
				}
				hold(t, c, linesOf(append(left, number, 1)...)...)
			}
		}
	}
}

func TestP10_2DropNone(t *testing.T) {
	c := having(t, 4, 2, 1, 5, 2)
	for _, number := range []uint32{0, 3, 4, 6, 7, 9, 10, 257, 1<<31 + 1, most} {
		if c.Drop(number) {
			t.Errorf("%d is dropped, which is not there", number)
		}
		hold(t, c, linesOf(1, 5, 2)...)
	}
	if made(t, 64, 8).Drop(0) {
		t.Error("a cache without lines drops one")
	}
}

// TestP10_2DropStates drops a line of each state.
func TestP10_2DropStates(t *testing.T) {
	for _, state := range states() {
		c := made(t, 1, 2, line(7, state), line(8, state))
		if !c.Drop(7) {
			t.Errorf("a line of state %d is not dropped", state)
		}
		hold(t, c, line(8, state))
	}
}
