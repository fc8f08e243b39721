package cache_test

import (
	"math"
	"testing"

	"quadrille/api"
	"quadrille/cache"
)

// noHarts is numbers that no hart has.
func noHarts() []int {
	return []int{-1, -2, -4, 4, 5, 8, 256, 1 << 32, 1<<32 + 1, math.MaxInt, math.MinInt, math.MinInt + 1}
}

func noSets() []int {
	return []int{0, -1, -2, -64, 3, 5, 6, 7, 9, 12, 48, 63, 65, 96, 128, 256, 1 << 32, 1 << 40, math.MaxInt, math.MinInt}
}

func noWays() []int {
	return []int{0, -1, -2, -8, 9, 10, 16, 64, 256, 1 << 32, 1<<32 + 1, math.MaxInt, math.MinInt}
}

func TestP13_1New(t *testing.T) {
	for id := range 4 {
		for _, sets := range []int{1, 2, 4, 8, 16, 32, 64} {
			for ways := 1; ways <= 8; ways++ {
				c := made(t, id, sets, ways)
				if text := cacheText(c); text != "" || c.State(0) != api.StateI {
					t.Errorf("New(%d, %d, %d) has %q", id, sets, ways, text)
				}
				sent, err := c.Ask(5, true, 0)
				want := api.Msg{Kind: api.MsgGetM, From: id, To: api.Home, Line: 5}
				if err != api.OK || len(sent) != 1 || sent[0] != want {
					t.Errorf("New(%d, %d, %d) sends %v, %v, want %v", id, sets, ways, sent, err, want)
				}
			}
		}
	}
}

// TestP13_1NewRoom fills the sets of a cache: each has as many lines as it has ways, and no more.
func TestP13_1NewRoom(t *testing.T) {
	for _, sets := range []int{1, 2, 4, 8, 16, 32, 64} {
		for ways := 1; ways <= 8; ways++ {
			c := made(t, 1, sets, ways)
			for number := range sets * ways {
				bring(t, c, 1, uint32(number), api.StateS)
			}
			if many := len(c.Lines()); many != sets*ways {
				t.Errorf("of %d sets of %d there are %d lines", sets, ways, many)
			}
			next := uint32(sets * ways)
			c.Ask(next, false, 0)
			if many := len(c.Lines()); many != sets*ways-1 || c.State(next%uint32(sets)) != api.StateI {
				t.Errorf("of %d sets of %d there are %d lines, and line %d is %d", sets, ways, many, next%uint32(sets), c.State(next%uint32(sets)))
			}
		}
	}
}

func TestP13_1NewRefused(t *testing.T) {
	refused := func(id, sets, ways int) {
		t.Helper()
		if c, err := cache.New(id, sets, ways); c != nil || err != api.ErrArg {
			t.Errorf("New(%d, %d, %d) is %v, %v", id, sets, ways, c, err)
		}
	}
	for _, id := range noHarts() {
		refused(id, 1, 1)
		refused(id, 64, 8)
		refused(id, 0, 0)
	}
	for id := range 4 {
		for _, sets := range noSets() {
			refused(id, sets, 1)
			refused(id, sets, 8)
		}
		for _, ways := range noWays() {
			refused(id, 1, ways)
			refused(id, 64, ways)
		}
		refused(id, 3, 9)
	}
}

// TestP13_1NoCache has each call of no cache.
func TestP13_1NoCache(t *testing.T) {
	for i, c := range none() {
		for _, width := range append(noWidths(), 1, 2, 4) {
			for _, addr := range []uint32{0, 1, 2, 48, math.MaxUint32} {
				if value, err := c.Read(addr, width); value != 0 || err != api.ErrNil {
					t.Errorf("none (%d): Read(%d, %d) is %d, %v", i, addr, width, value, err)
				}
				if err := c.Write(addr, width, 5); err != api.ErrNil {
					t.Errorf("none (%d): Write(%d, %d) is %v", i, addr, width, err)
				}
			}
		}
		for _, pick := range picks() {
			for _, write := range []bool{false, true} {
				if sent, err := c.Ask(3, write, pick); len(sent) > 0 || err != api.ErrNil {
					t.Errorf("none (%d): Ask is %v, %v", i, sent, err)
				}
			}
			if sent := c.Evict(pick); len(sent) > 0 {
				t.Errorf("none (%d): Evict is %v", i, sent)
			}
		}
		for _, m := range append(mayNotBe(0), mayNotBe(3)...) {
			if sent, err := c.Take(m); len(sent) > 0 || err != api.ErrNil {
				t.Errorf("none (%d): Take(%v) is %v, %v", i, m, sent, err)
			}
		}
		for _, kind := range toCache() {
			if sent, err := c.Take(message(kind, 0, 0, 0)); len(sent) > 0 || err != api.ErrNil {
				t.Errorf("none (%d): Take of kind %d is %v, %v", i, kind, sent, err)
			}
		}
	}
}

// TestP13_2NoCache has what no cache tells.
func TestP13_2NoCache(t *testing.T) {
	for i, c := range none() {
		if all := toldBy(c); !sameTold(all, told{}) {
			t.Errorf("none (%d) tells %v", i, all)
		}
		for _, line := range []uint32{0, 1, 3, 1 << 28, math.MaxUint32} {
			if s := c.State(line); s != api.StateI {
				t.Errorf("none (%d): line %d is %d", i, line, s)
			}
		}
		if other := c.Copy(); other != nil {
			t.Errorf("none (%d): Copy is %v", i, other)
		}
	}
}

// mayNotBe is messages that may not be, or are not to the cache of that hart.
func mayNotBe(id int) []api.Msg {
	var all []api.Msg
	for _, kind := range []api.MsgKind{api.MsgNone, -1, -4, 14, 15, 255, 256, 1<<32 + 4, math.MaxInt, math.MinInt} {
		all = append(all, api.Msg{Kind: kind, From: api.Home, To: id}, api.Msg{Kind: kind, From: id, To: api.Home})
	}
	for _, kind := range toCache() {
		for _, to := range append(noHarts(), (id+1)%4, (id+2)%4, (id+3)%4) {
			all = append(all, message(kind, to, 0, 1), message(kind, to, 0, 2))
		}
		for _, from := range append(noHarts(), 0, 1, 2, 3) {
			if from != api.Home {
				all = append(all, api.Msg{Kind: kind, From: from, To: id})
			}
		}
		all = append(all, api.Msg{Kind: kind, From: id, To: api.Home})
		if !isData(kind) {
			all = append(all, api.Msg{Kind: kind, From: api.Home, To: id, Bytes: [16]byte{1}}, api.Msg{Kind: kind, From: api.Home, To: id, Bytes: [16]byte{15: 255}})
		}
	}
	for _, kind := range toHome() {
		all = append(all, api.Msg{Kind: kind, From: id, To: api.Home}, api.Msg{Kind: kind, From: api.Home, To: id}, api.Msg{Kind: kind, From: (id + 1) % 4, To: id})
	}
	return all
}
