package arith_test

import (
	"math"
	"math/big"
	"testing"

	"quadrille/arith"
)

const (
	top  = uint32(1) << 31
	most = uint32(math.MaxUint32)
)

// grid is words about which the calls may go wrong: near 0, near 2^31, near 2^32, each power of 2 and its neighbours, and some between.
func grid() []uint32 {
	out := []uint32{0, 3, 5, 6, 7, 9, 10, 12345, 0x12345678, 0xdeadbeef, 0x55555555, 0xaaaaaaaa, 0xffff0000, most - 6, most - 1}
	for i := range 32 {
		out = append(out, 1<<i-1, 1<<i, 1<<i+1, -(uint32(1) << i), ^(uint32(1) << i))
	}
	return out
}

func plain(n uint32) *big.Int { return new(big.Int).SetUint64(uint64(n)) }

// withSign is the document's own rule: a word less 2^32, from 2^31 on.
func withSign(n uint32) *big.Int {
	b := plain(n)
	if n >= top {
		b.Sub(b, new(big.Int).Lsh(big.NewInt(1), 32))
	}
	return b
}

// modulo is the word that is left of a number.
func modulo(n *big.Int) uint32 {
	return uint32(new(big.Int).Mod(n, new(big.Int).Lsh(big.NewInt(1), 32)).Uint64())
}

// row is a call with two words, and its answer.
type row struct {
	name string
	call func(a, b uint32) uint32
	a, b uint32
	want uint32
}

func checkRows(t *testing.T, rows []row) {
	t.Helper()
	for _, r := range rows {
		if got := r.call(r.a, r.b); got != r.want {
			t.Errorf("%s(%d, %d) is %d, want %d", r.name, r.a, r.b, got, r.want)
		}
	}
}

// checkGrid holds a call against what big numbers tell, on all pairs of the grid.
func checkGrid(t *testing.T, name string, call func(a, b uint32) uint32, want func(a, b uint32) uint32) {
	t.Helper()
	for _, a := range grid() {
		for _, b := range grid() {
			if got, w := call(a, b), want(a, b); got != w {
				t.Fatalf("%s(%d, %d) is %d, want %d", name, a, b, got, w)
			}
		}
	}
}

func TestP1_1Rows(t *testing.T) {
	checkRows(t, []row{
		{"Add", arith.Add, 2, 3, 5},
		{"Add", arith.Add, most, 1, 0},
		{"Add", arith.Add, top, top, 0},
		{"Sub", arith.Sub, 7, 3, 4},
		{"Sub", arith.Sub, 3, 7, most - 3},
		{"Sub", arith.Sub, 0, 1, most},
		{"Mul", arith.Mul, 6, 7, 42},
		{"Mul", arith.Mul, 1 << 16, 1 << 16, 0},
		{"Mul", arith.Mul, most, most, 1},
		{"MulH", arith.MulH, most, 2, most},
		{"MulH", arith.MulH, most, most, 0},
		{"MulH", arith.MulH, top, top, 1 << 30},
		{"MulH", arith.MulH, 3, 5, 0},
		{"MulHU", arith.MulHU, most, 2, 1},
		{"MulHU", arith.MulHU, most, most, most - 1},
		{"MulHU", arith.MulHU, top, top, 1 << 30},
		{"MulHSU", arith.MulHSU, most, 2, most},
		{"MulHSU", arith.MulHSU, 2, most, 1},
		{"MulHSU", arith.MulHSU, most, most, most},
		{"MulHSU", arith.MulHSU, top, most, top},
	})
}

func TestP1_1Grid(t *testing.T) {
	lower := func(op func(z, a, b *big.Int) *big.Int) func(a, b uint32) uint32 {
		return func(a, b uint32) uint32 { return modulo(op(new(big.Int), plain(a), plain(b))) }
	}
	checkGrid(t, "Add", arith.Add, lower((*big.Int).Add))
	checkGrid(t, "Sub", arith.Sub, lower((*big.Int).Sub))
	checkGrid(t, "Mul", arith.Mul, lower((*big.Int).Mul))
	upper := func(first, second func(uint32) *big.Int) func(a, b uint32) uint32 {
		return func(a, b uint32) uint32 {
			product := new(big.Int).Mul(first(a), second(b))
			return modulo(product.Rsh(product, 32)) // Rsh of big numbers rounds down, below 0 too
		}
	}
	checkGrid(t, "MulH", arith.MulH, upper(withSign, withSign))
	checkGrid(t, "MulHU", arith.MulHU, upper(plain, plain))
	checkGrid(t, "MulHSU", arith.MulHSU, upper(withSign, plain))
}

func TestP1_2Rows(t *testing.T) {
	checkRows(t, []row{
		{"Div", arith.Div, 7, 2, 3},
		{"Div", arith.Div, top, most, top},
		{"Div", arith.Div, most - 6, 2, most - 2},
		{"Div", arith.Div, 7, most - 1, most - 2},
		{"Div", arith.Div, most - 6, most - 1, 3},
		{"Div", arith.Div, top, 1, top},
		{"Div", arith.Div, 7, 0, most},
		{"Div", arith.Div, 0, 0, most},
		{"Div", arith.Div, top, 0, most},
		{"Rem", arith.Rem, 7, 2, 1},
		{"Rem", arith.Rem, top, most, 0},
		{"Rem", arith.Rem, most - 6, 2, most},
		{"Rem", arith.Rem, 7, most - 1, 1},
		{"Rem", arith.Rem, most - 6, most - 1, most},
		{"Rem", arith.Rem, 7, 0, 7},
		{"Rem", arith.Rem, 0, 0, 0},
		{"Rem", arith.Rem, top, 0, top},
		{"DivU", arith.DivU, 7, 2, 3},
		{"DivU", arith.DivU, most, 2, top - 1},
		{"DivU", arith.DivU, top, most, 0},
		{"DivU", arith.DivU, 7, 0, most},
		{"DivU", arith.DivU, 0, 0, most},
		{"RemU", arith.RemU, 7, 2, 1},
		{"RemU", arith.RemU, most, 2, 1},
		{"RemU", arith.RemU, top, most, top},
		{"RemU", arith.RemU, 7, 0, 7},
		{"RemU", arith.RemU, most, 0, most},
	})
}

func TestP1_2Grid(t *testing.T) {
	// Quo and Rem of big numbers round towards 0, what is left with the sign of the first.
	quotient := func(of func(uint32) *big.Int) func(a, b uint32) uint32 {
		return func(a, b uint32) uint32 {
			if b == 0 {
				return most
			}
			return modulo(new(big.Int).Quo(of(a), of(b)))
		}
	}
	left := func(of func(uint32) *big.Int) func(a, b uint32) uint32 {
		return func(a, b uint32) uint32 {
			if b == 0 {
				return a
			}
			return modulo(new(big.Int).Rem(of(a), of(b)))
		}
	}
	checkGrid(t, "Div", arith.Div, quotient(withSign))
	checkGrid(t, "DivU", arith.DivU, quotient(plain))
	checkGrid(t, "Rem", arith.Rem, left(withSign))
	checkGrid(t, "RemU", arith.RemU, left(plain))
}

func TestP1_3Rows(t *testing.T) {
	checkRows(t, []row{
		{"Shl", arith.Shl, 1, 0, 1},
		{"Shl", arith.Shl, 3, 31, top},
		{"Shl", arith.Shl, 1, 32, 1},
		{"Shl", arith.Shl, 1, 33, 2},
		{"Shl", arith.Shl, 1, most, top},
		{"Shr", arith.Shr, top, 0, top},
		{"Shr", arith.Shr, top, 31, 1},
		{"Shr", arith.Shr, top, 32, top},
		{"Shr", arith.Shr, top, 33, 1 << 30},
		{"Shr", arith.Shr, top, most, 1},
		{"Sar", arith.Sar, top, 0, top},
		{"Sar", arith.Sar, top, 31, most},
		{"Sar", arith.Sar, top, 32, top},
		{"Sar", arith.Sar, top, 33, 3 << 30},
		{"Sar", arith.Sar, top, most, most},
		{"Sar", arith.Sar, top - 1, 30, 1},
		{"Sar", arith.Sar, top - 1, most, 0},
	})
}

// TestP1_3Grid moves one bit at a time, which needs no more than doubling and halving.
func TestP1_3Grid(t *testing.T) {
	times := func(one func(*big.Int) *big.Int, of func(uint32) *big.Int) func(a, n uint32) uint32 {
		return func(a, n uint32) uint32 {
			b := of(a)
			for range n % 32 {
				b = one(b)
			}
			return modulo(b)
		}
	}
	double := func(b *big.Int) *big.Int { return b.Mul(b, big.NewInt(2)) }
	halve := func(b *big.Int) *big.Int { return b.Div(b, big.NewInt(2)) } // Div of big numbers by 2 rounds down
	checkGrid(t, "Shl", arith.Shl, times(double, plain))
	checkGrid(t, "Shr", arith.Shr, times(halve, plain))
	checkGrid(t, "Sar", arith.Sar, times(halve, withSign))
}

func TestP1_3Extend(t *testing.T) {
	for _, r := range []struct {
		n    uint32
		bits int
		want uint32
	}{
		{255, 8, most}, {127, 8, 127}, {128, 8, most - 127}, {0x1ff, 8, most}, {0x17f, 8, 127},
		{0, 1, 0}, {1, 1, most}, {2, 1, 0}, {3, 1, most},
		{0x7ff, 12, 0x7ff}, {0x800, 12, 0xfffff800}, {0x8000, 16, 0xffff8000},
		{top - 1, 31, most}, {1<<30 - 1, 31, 1<<30 - 1}, {top, 31, 0},
		{top, 32, top}, {0x12345678, 32, 0x12345678},
		{top + 1, 0, top + 1}, {1, 0, 1}, {255, 33, 255}, {255, 40, 255}, {top + 5, 64, top + 5},
		{255, -1, 255}, {255, -8, 255}, {255, -24, 255}, {1, -31, 1}, {0xdeadbeef, -32, 0xdeadbeef},
		{255, math.MaxInt, 255}, {255, math.MinInt, 255}, {255, math.MinInt + 8, 255}, {255, 1<<32 + 8, 255},
	} {
		if got := arith.Extend(r.n, r.bits); got != r.want {
			t.Errorf("Extend(%d, %d) is %d, want %d", r.n, r.bits, got, r.want)
		}
	}
}

// TestP1_3ExtendBits holds each bit of the answer against the sentence of the chapter.
func TestP1_3ExtendBits(t *testing.T) {
	for _, n := range grid() {
		for bits := -40; bits <= 72; bits++ {
			kept := bits
			if bits < 1 || bits > 32 {
				kept = 32
			}
			got := arith.Extend(n, bits)
			for i := range 32 {
				if got>>i&1 != n>>min(i, kept-1)&1 {
					t.Fatalf("Extend(%d, %d) is %d: bit %d is wrong", n, bits, got, i)
				}
			}
		}
	}
}

func TestP1_4Rows(t *testing.T) {
	for i, is := range []bool{
		arith.Less(1, 2), !arith.Less(2, 1), !arith.Less(2, 2),
		arith.Less(top, 0), !arith.Less(0, top), arith.Less(most, 0), arith.Less(most-1, most), arith.Less(top, top-1),
		arith.LessU(1, 2), !arith.LessU(2, 1), !arith.LessU(2, 2),
		!arith.LessU(top, 0), arith.LessU(0, top), arith.LessU(0, most), arith.LessU(top-1, top),
		arith.Sign(0) == 0, arith.Sign(7) == 7, arith.Sign(top-1) == 1<<31-1,
		arith.Sign(top) == -1<<31, arith.Sign(top+1) == -1<<31+1, arith.Sign(most) == -1,
	} {
		if !is {
			t.Error("row", i)
		}
	}
}

func TestP1_4Grid(t *testing.T) {
	for _, a := range grid() {
		if got := big.NewInt(arith.Sign(a)); got.Cmp(withSign(a)) != 0 {
			t.Fatalf("Sign(%d) is %d", a, got)
		}
		for _, b := range grid() {
			if got := arith.Less(a, b); got != (withSign(a).Cmp(withSign(b)) < 0) {
				t.Fatalf("Less(%d, %d) is %t", a, b, got)
			}
			if got := arith.LessU(a, b); got != (plain(a).Cmp(plain(b)) < 0) {
				t.Fatalf("LessU(%d, %d) is %t", a, b, got)
			}
		}
	}
}

// quotientHolds tells whether a is the quotient times b and what is left.
func quotientHolds(a, b uint32) bool {
	return arith.Add(arith.Mul(arith.Div(a, b), b), arith.Rem(a, b)) == a &&
		arith.Add(arith.Mul(arith.DivU(a, b), b), arith.RemU(a, b)) == a
}

// moveHolds tells whether a moved down by n and its lowest n bits, moved up again, are a.
func moveHolds(a, n uint32) bool {
	kept := uint32(1)<<(n%32) - 1
	return arith.Shl(arith.Shr(a, n), n)|a&kept == a
}

// justOne tells whether one alone of three is so.
func justOne(a, b, c bool) bool {
	n := 0
	for _, is := range []bool{a, b, c} {
		if is {
			n++
		}
	}
	return n == 1
}

func TestP1_5(t *testing.T) {
	for _, a := range grid() {
		for _, b := range grid() {
			if b != 0 && !quotientHolds(a, b) {
				t.Fatalf("quotient and what is left of %d by %d do not make it", a, b)
			}
			if got := arith.Sub(arith.Add(a, b), b); got != a {
				t.Fatalf("Sub(Add(%d, %d), %d) is %d", a, b, b, got)
			}
			if !justOne(arith.Less(a, b), arith.Less(b, a), a == b) || !justOne(arith.LessU(a, b), arith.LessU(b, a), a == b) {
				t.Fatalf("not just one of below, above, same: %d and %d", a, b)
			}
			if !moveHolds(a, b) {
				t.Fatalf("%d moved down by %d and up again is not it", a, b)
			}
		}
	}
}
