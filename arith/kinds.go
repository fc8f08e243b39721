package arith

// wordBits is how many bits a word has.
const wordBits = 32

// Where the halves of a product stand.
const (
	low = iota
	high
)

// signed is a word as the number with its sign.
type signed int32

// word tells the word that has these bits.
func (s signed) word() uint32 { return uint32(s) }

// wide tells the same number with more room, as Sign hands it out.
func (s signed) wide() int64 { return int64(s) }

// down tells the number moved down by n bits, which are fewer than 32.
func (s signed) down(n uint32) signed { return s >> n }

// parts tells how far from 0 the number is, and whether it is below it.
// The first is a word, since -2^31 is farther from 0 than a signed one reaches.
func (s signed) parts() (size uint32, minus bool) {
	if s < 0 {
		return -s.word(), true
	}
	return s.word(), false
}

// kind is either kind of number: words as they are, words with their signs.
type kind interface {
	uint32 | signed
}

// below tells whether a is below b, as numbers of their kind.
func below[K kind](a, b K) bool { return a < b }

// halves tells the product's lower and upper half.
// Two words' product may not fit an int64, but it wraps modulo 2^64, which leaves both halves right.
func halves[A, B kind](a A, b B) [2]uint32 {
	product := uint64(int64(a) * int64(b))
	return [2]uint32{low: uint32(product), high: uint32(product >> wordBits)}
}

// wordParts tells a word's parts when it has no sign.
func wordParts(n uint32) (size uint32, minus bool) { return n, false }

// signedParts tells a word's parts when it has a sign.
func signedParts(n uint32) (size uint32, minus bool) { return signed(n).parts() }

// divide tells the quotient, rounded towards 0, and what is left, with the sign of a; parts tells how signs go.
// Dividing sizes keeps clear of -2^31 by -1, whose quotient no signed word holds.
func divide(a, b uint32, parts func(uint32) (uint32, bool)) (quotient, left uint32) {
	if b == 0 {
		return ^uint32(0), a
	}
	sizeA, minusA := parts(a)
	sizeB, minusB := parts(b)
	quotient, left = sizeA/sizeB, sizeA%sizeB
	if minusA != minusB {
		quotient = -quotient
	}
	if minusA {
		left = -left
	}
	return quotient, left
}
