package cache_test

import (
	"math"
	"testing"

	"quadrille/api"
	"quadrille/cache"
)

func noWidths() []int {
	return []int{0, 3, 5, 6, 7, 8, 12, 16, 32, -1, -2, -4, 256, 1 << 32, 1<<32 + 1, 1<<32 + 4, math.MaxInt, math.MinInt}
}

// lowest is the number that some bytes make, the lowest one first.
func lowest(b []byte) uint32 {
	value := uint32(0)
	for i := len(b); i > 0; i-- {
		value = value<<8 + uint32(b[i-1])
	}
	return value
}

// lineNumbers is some of which an address can tell.
func lineNumbers() []uint32 { return []uint32{0, 1, 3, 255, 1<<27 + 5, 1<<28 - 1} }

// TestP13_1Read reads each width at each byte of a line, in each state of it.
func TestP13_1Read(t *testing.T) {
	for _, number := range lineNumbers() {
		for _, s := range states() {
			c := having(t, 2, 4, 2, line(number, s), line(number^1, api.StateS))
			b := broughtBytes(number, s)
			for _, width := range []int{1, 2, 4} {
				for at := range 16 {
					want, wantErr := uint32(0), api.ErrArg
					if at%width == 0 {
						want, wantErr = lowest(b[at:at+width]), api.OK
					}
					if got, err := c.Read(number*16+uint32(at), width); got != want || err != wantErr {
						t.Errorf("line %d, which is %d: Read(%d, %d) is %d, %v, want %d, %v", number, s, at, width, got, err, want, wantErr)
					}
				}
			}
			holdSame(t, c, having(t, 2, 4, 2, line(number, s), line(number^1, api.StateS)))
		}
	}
}

// TestP13_1Write writes each width at each byte of a line that is E, or M: the bytes beside stay, and it is M.
func TestP13_1Write(t *testing.T) {
	for _, number := range lineNumbers() {
		for _, s := range []api.State{api.StateE, api.StateM} {
			for _, width := range []int{1, 2, 4} {
				for at := 0; at < 16; at += width {
					for _, value := range []uint32{0, 1, 0x80, 0x12345678, 0xfedcba98, 0xff00ff00, math.MaxUint32} {
						c := having(t, 3, 2, 2, line(number^1, api.StateM), line(number, s))
						err := c.Write(number*16+uint32(at), width, value)
						want := line(number, s)
						want.State = api.StateM
						for i := range width {
							want.Bytes[at+i] = byte(value >> (8 * i))
						}
						if err != api.OK || c.State(number) != api.StateM {
							t.Errorf("line %d, which is %d: Write(%d, %d) is %v, then it is %d", number, s, at, width, err, c.State(number))
						}
						holdLine(t, c, want)
						holdLine(t, c, line(number^1, api.StateM))
					}
				}
			}
		}
	}
}

// holdLine holds that a line is there.
func holdLine(t *testing.T, c *cache.Cache, want api.Line) {
	t.Helper()
	for _, l := range c.Lines() {
		if l == want {
			return
		}
	}
	t.Errorf("there are %v, not %v", c.Lines(), want)
}

// TestP13_1WriteThenRead has what is written read, by other widths, too.
func TestP13_1WriteThenRead(t *testing.T) {
	c := having(t, 0, 1, 1, line(3, api.StateE))
	c.Write(48, 4, 0x44332211)
	c.Write(50, 2, 0xffff8877) // wider than it may be
	c.Write(49, 1, 0x123456aa)
	for _, w := range []struct {
		addr  uint32
		width int
		want  uint32
	}{{48, 4, 0x8877aa11}, {48, 2, 0xaa11}, {50, 2, 0x8877}, {48, 1, 0x11}, {49, 1, 0xaa}, {50, 1, 0x77}, {51, 1, 0x88}} {
		if got, err := c.Read(w.addr, w.width); got != w.want || err != api.OK {
			t.Errorf("Read(%d, %d) is %x, %v, want %x", w.addr, w.width, got, err, w.want)
		}
	}
	b := bytesOf(3)
	if got, err := c.Read(52, 4); got != lowest(b[4:8]) || err != api.OK {
		t.Errorf("the word beside is %x, %v, want %x", got, err, lowest(b[4:8]))
	}
}

// accessStates is caches with line 3 in each state, asked for or given back or neither, and those that have not line 3.
func accessStates(t *testing.T) []*cache.Cache {
	t.Helper()
	all := []*cache.Cache{made(t, 1, 2, 1), having(t, 1, 2, 1, line(2, api.StateM), line(1, api.StateM))}
	for _, s := range states() {
		all = append(all, having(t, 1, 2, 2, line(3, s)))
	}
	toRead, toWrite, given := made(t, 1, 2, 1), having(t, 1, 2, 1, line(3, api.StateS)), having(t, 1, 2, 1, line(3, api.StateM))
	toRead.Ask(3, false, 0)
	toWrite.Ask(3, true, 0)
	given.Evict(0)
	return append(all, toRead, toWrite, given)
}

// TestP13_1AccessErrArg has widths that may not be, and addresses that one does not divide, of lines that are there and that are not.
func TestP13_1AccessErrArg(t *testing.T) {
	for i, c := range accessStates(t) {
		was := c.Copy()
		refused := func(addr uint32, width int) {
			t.Helper()
			if value, err := c.Read(addr, width); value != 0 || err != api.ErrArg {
				t.Errorf("cache %d: Read(%d, %d) is %d, %v", i, addr, width, value, err)
			}
			if err := c.Write(addr, width, 99); err != api.ErrArg {
				t.Errorf("cache %d: Write(%d, %d) is %v", i, addr, width, err)
			}
		}
		for _, width := range noWidths() {
			for _, addr := range []uint32{0, 1, 48, 49, 52, 56, math.MaxUint32} {
				refused(addr, width)
			}
		}
		for at := uint32(1); at < 16; at += 2 {
			for _, base := range []uint32{0, 32, 48, 64, math.MaxUint32 - 15} {
				refused(base+at, 2)
				refused(base+at, 4)
				refused(base+at&^3+2, 4)
			}
		}
		holdSame(t, c, was)
	}
}

// TestP13_1ErrMiss has accesses of a line in each state, asked for or given back.
func TestP13_1ErrMiss(t *testing.T) {
	for i, c := range accessStates(t) {
		for _, width := range []int{1, 2, 4} {
			for _, at := range []uint32{48, 52, 60} {
				was := c.Copy()
				s := was.State(3)
				wantRead, wantWrite := api.OK, api.OK
				if s == api.StateI {
					wantRead = api.ErrMiss
				}
				if s == api.StateI || s == api.StateS {
					wantWrite = api.ErrMiss
				}
				value, err := c.Read(at, width)
				if err != wantRead || err != api.OK && value != 0 {
					t.Errorf("cache %d: Read(%d, %d) is %d, %v", i, at, width, value, err)
				}
				holdSame(t, c, was)
				if err := c.Write(at, width, 77); err != wantWrite {
					t.Errorf("cache %d: Write(%d, %d) is %v, want %v", i, at, width, err, wantWrite)
				}
				if wantWrite != api.OK {
					holdSame(t, c, was)
				}
			}
		}
	}
}

// TestP13_1AccessOfOneLine has lines whose numbers differ in one bit: no access is of another one than its own.
func TestP13_1AccessOfOneLine(t *testing.T) {
	c := having(t, 0, 1, 1, line(0, api.StateE))
	for bit := range 28 {
		addr := uint32(16) << bit
		if value, err := c.Read(addr, 4); value != 0 || err != api.ErrMiss {
			t.Errorf("Read(%d) is %d, %v", addr, value, err)
		}
		if err := c.Write(addr, 4, 1); err != api.ErrMiss {
			t.Errorf("Write(%d) is %v", addr, err)
		}
	}
	holdSame(t, c, having(t, 0, 1, 1, line(0, api.StateE)))
}

// TestP13_1AccessKeepsOrder writes into lines of one set: each stays in its place.
func TestP13_1AccessKeepsOrder(t *testing.T) {
	rowsOf(t, 1, 3,
		row{read(5, 0), "GetS 5", "asks 5"},
		row{take(api.MsgDataE, 5), "Done 5", "5 E"},
		row{read(2, 0), "GetS 2", "5 E, asks 2"},
		row{take(api.MsgDataE, 2), "Done 2", "5 E, 2 E"},
		row{write(9, 0), "GetM 9", "5 E, 2 E, asks 9 to write"},
		row{take(api.MsgDataM, 9), "Done 9", "5 E, 2 E, 9 E"},
		row{store(2, 6), "", "5 E, 2 M, 9 E"},
		row{store(5, 6), "", "5 M, 2 M, 9 E"},
		row{store(7, 6), "miss", "5 M, 2 M, 9 E"},
		row{take(api.MsgShare, 5), "Back 5", "5 S, 2 M, 9 E"},
		row{store(5, 6), "miss", "5 S, 2 M, 9 E"},
		row{store(9, 6), "", "5 S, 2 M, 9 M"},
		row{store(9, 7), "", "5 S, 2 M, 9 M"},
	)
}
