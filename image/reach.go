package image

import "quadrille/api"

// How many bits 1, 2 and 4 bytes have.
const (
	byteBits = 8 << iota
	halfBits
	wordBits
)

// lineBits is how many bits a line has.
const lineBits = api.LineBytes * byteBits

// widths tells how many bits each width has; of one that may not be there are none.
func widths() map[int]int {
	return map[int]int{1: byteBits, 2: halfBits, 4: wordBits}
}

// lineStart tells a line's first address, which for a line that is not there may be no word any more.
func lineStart(number uint32) uint64 { return uint64(number) * api.LineBytes }

// mayBe tells whether an image may have so many bytes.
func mayBe(size int) bool {
	return size >= api.LineBytes && size <= api.MaxMemory && size&(size-1) == 0
}

// build makes an image of so many bytes for fill to lay, if one may have so many.
func build(size int, fill func(cells []byte)) (*Image, api.Errno) {
	if !mayBe(size) {
		return nil, api.ErrArg
	}
	m := &Image{cells: make([]byte, size)}
	fill(m.cells)
	return m, api.OK
}

// own tells the bytes themselves, which never leave the package; none of no image.
func (m *Image) own() []byte {
	if m == nil {
		return nil
	}
	return m.cells
}

// reach lets goOn have the bytes from first on that make up so many bits, unless that is refused.
// All refusals stand here, in their order, so that whatever goes on from here can trust its bytes.
// Since sizes are powers of two, a part that begins in the image and is aligned ends in it.
func (m *Image) reach(first uint64, bits int, goOn func(part []byte)) api.Errno {
	cells, size := m.own(), uint64(bits/byteBits)
	switch {
	case len(cells) == 0:
		return api.ErrNil
	case size == 0:
		return api.ErrArg
	case first%size != 0:
		return api.ErrAlign
	case first >= uint64(len(cells)):
		return api.ErrRange
	}
	end := first + size
	goOn(cells[first:end:end])
	return api.OK
}

// valueOf tells the number whose lowest eight bits are the first byte, and so on.
func valueOf(part []byte) uint32 {
	value := uint32(0)
	for i, b := range part {
		value |= uint32(b) << (i * byteBits)
	}
	return value
}

// lay makes the bytes those of the value, as far as they go.
func lay(part []byte, value uint32) {
	for i := range part {
		part[i] = byte(value >> (i * byteBits))
	}
}
