package lines_test

import (
	"math"
	"math/big"
	"testing"

	"quadrille/api"
)

// picks is choices near 0, of which some are below it, and far from it.
func picks() []int {
	p := []int{math.MinInt, math.MinInt + 1, math.MinInt + 2, math.MinInt + 7, -1 << 32, -1<<31 - 1, -1 << 31, 1<<31 - 1, 1 << 31, 1<<32 - 1, 1 << 32, 1<<32 + 1, math.MaxInt - 7, math.MaxInt - 1, math.MaxInt}
	for pick := -20; pick <= 20; pick++ {
		p = append(p, pick)
	}
	return p
}

// choice is the document's own rule: a number modulo so many, from 0 on.
func choice(pick, things int) int {
	return int(new(big.Int).Mod(big.NewInt(int64(pick)), big.NewInt(int64(things))).Int64())
}

func TestP10_3Victim(t *testing.T) {
	for _, sets := range setsThatMayBe() {
		for _, ways := range waysThatMayBe() {
			c := made(t, sets, ways)
			own := uint32(sets - 1)
			var set []api.Line
			for i := range ways { // they fall, so that no order but that in which they came will do
				set = append(set, line(own+uint32((ways-i)*sets), states()[i%3]))
				c.Put(set[i])
			}
			for _, pick := range picks() {
				want := set[choice(pick, ways)]
				holdVictim(t, c, own, pick, want)
				holdVictim(t, c, most, pick, want)
				holdVictim(t, c, own+uint32((ways+1)*sets), pick, want)
				for _, l := range set { // one that is there needs no room
					holdNoVictim(t, c, l.Number, pick)
				}
				if sets > 1 { // nor does one of another set
					holdNoVictim(t, c, own+1, pick)
					holdNoVictim(t, c, most-1, pick)
				}
			}
			hold(t, c, set...)
		}
	}
}

// TestP10_3Rows has choices written out, of three lines.
func TestP10_3Rows(t *testing.T) {
	c := having(t, 1, 3, 30, 10, 20)
	for _, r := range []struct {
		pick int
		want uint32
	}{
		{0, 30}, {1, 10}, {2, 20}, {3, 30}, {4, 10}, {-1, 20}, {-2, 10}, {-3, 30}, {-4, 20},
		// 2^31 - 1, 2^63 - 1, -2^31 and -2^63 are 1 modulo 3, 2^32 - 1 is 0
		{1<<31 - 1, 10}, {math.MaxInt, 10}, {-1 << 31, 10}, {math.MinInt, 10}, {1<<32 - 1, 30},
	} {
		holdVictim(t, c, 5, r.pick, line(r.want, api.StateS))
	}
}

// TestP10_3Room has sets with room for one line more, or for all of them.
func TestP10_3Room(t *testing.T) {
	for _, ways := range waysThatMayBe() {
		c := made(t, 2, ways)
		for i := range ways {
			holdNoVictim(t, c, most-1, picks()...)
			holdNoVictim(t, c, uint32(2*i), picks()...)
			c.Put(line(uint32(2*i), api.StateE))
		}
		holdNoVictim(t, c, most, picks()...)
		holdVictim(t, c, most-1, 0, line(0, api.StateE))
	}
}

// TestP10_3Goes has what the choices say of a set as lines are dropped, come again and are put in their places.
func TestP10_3Goes(t *testing.T) {
	c := having(t, 2, 3, 0, 2, 4)
	c.Drop(2)
	holdNoVictim(t, c, 8, 0, 1, 2)
	c.Put(line(6, api.StateS))
	c.Put(line(0, api.StateM))
	for pick, want := range []api.Line{line(0, api.StateM), line(4, api.StateS), line(6, api.StateS)} {
		holdVictim(t, c, 2, pick, want)
	}
}
