// Package arith is layer 1: numbers of 32 bits, as RV32IM reckons with them (see shared/doc/01-arith.md).
package arith

// Add tells the sum modulo 2^32.
func Add(a, b uint32) uint32 { return a + b }

// Sub tells the difference modulo 2^32.
func Sub(a, b uint32) uint32 { return a - b }

// Mul tells the product modulo 2^32.
func Mul(a, b uint32) uint32 { return halves(a, b)[low] }

// MulH tells the upper half of the product of both with their signs.
func MulH(a, b uint32) uint32 { return halves(signed(a), signed(b))[high] }

// MulHU tells the upper half of the product of both as words.
func MulHU(a, b uint32) uint32 { return halves(a, b)[high] }

// MulHSU tells the upper half of the product of the first with its sign and the second as a word.
func MulHSU(a, b uint32) uint32 { return halves(signed(a), b)[high] }

// Div tells the quotient of both with their signs, rounded towards 0; by 0: 2^32 - 1.
func Div(a, b uint32) uint32 {
	quotient, _ := divide(a, b, signedParts)
	return quotient
}

// DivU tells the quotient of words, rounded down; by 0: 2^32 - 1.
func DivU(a, b uint32) uint32 {
	quotient, _ := divide(a, b, wordParts)
	return quotient
}

// Rem tells what is left of both with their signs, with the sign of the first; by 0 the first.
func Rem(a, b uint32) uint32 {
	_, left := divide(a, b, signedParts)
	return left
}

// RemU tells what is left of words; by 0 the first.
func RemU(a, b uint32) uint32 {
	_, left := divide(a, b, wordParts)
	return left
}

// Shl tells a moved up by n modulo 32 bits.
func Shl(a, n uint32) uint32 { return a << (n % wordBits) }

// Shr tells a moved down by n modulo 32 bits, with noughts from above.
func Shr(a, n uint32) uint32 { return a >> (n % wordBits) }

// Sar tells a moved down by n modulo 32 bits, with its highest bit from above.
func Sar(a, n uint32) uint32 { return signed(a).down(n % wordBits).word() }

// Less tells whether a is below b, with their signs.
func Less(a, b uint32) bool { return below(signed(a), signed(b)) }

// LessU tells whether a is below b, as words.
func LessU(a, b uint32) bool { return below(a, b) }

// Extend tells the word whose lowest bits are those of n, and whose others are as the highest of these.
func Extend(n uint32, bits int) uint32 {
	if bits < 1 || bits > wordBits {
		bits = wordBits
	}
	spare := uint32(wordBits - bits)
	return Sar(Shl(n, spare), spare)
}

// Sign tells the number with a sign of a word.
func Sign(n uint32) int64 { return signed(n).wide() }
