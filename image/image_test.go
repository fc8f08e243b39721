package image_test

import (
	"bytes"
	"math"
	"slices"
	"testing"

	"quadrille/api"
	"quadrille/image"
)

const most = uint32(math.MaxUint32)

// allSizes is each size that may be.
func allSizes() []int { return []int{16, 32, 64, 128, 256, 512, 1024, 2048, 4096} }

// pattern is so many bytes of which neighbours differ, also those a line or more apart.
func pattern(size int) []byte {
	b := make([]byte, size)
	for i := range b {
		b[i] = byte(i*7 + i/16*31 + i/256*3 + 129)
	}
	return b
}

// made is an image of a pattern.
func made(t *testing.T, size int) *image.Image {
	t.Helper()
	m, err := image.Of(pattern(size))
	if m == nil || err != api.OK {
		t.Fatalf("Of(%d bytes) is %v, %v", size, m, err)
	}
	return m
}

// checkBytes holds an image against the bytes that it ought to have.
func checkBytes(t *testing.T, m *image.Image, want []byte) {
	t.Helper()
	if got := m.Bytes(); !bytes.Equal(got, want) {
		t.Fatalf("bytes are % x, want % x", got, want)
	}
}

// valueAt is the chapter's own rule: the first byte, and 256 times that of those behind it.
func valueAt(b []byte) uint32 {
	if len(b) == 0 {
		return 0
	}
	return uint32(b[0]) + 256*valueAt(b[1:])
}

func TestP2_1SizesThatMayBe(t *testing.T) {
	for _, size := range allSizes() {
		m, err := image.New(size)
		if m == nil || err != api.OK {
			t.Fatalf("New(%d) is %v, %v", size, m, err)
		}
		if m.Size() != size {
			t.Errorf("New(%d) has size %d", size, m.Size())
		}
		checkBytes(t, m, make([]byte, size))
		m = made(t, size)
		if m.Size() != size {
			t.Errorf("Of %d bytes has size %d", size, m.Size())
		}
		checkBytes(t, m, pattern(size))
	}
}

func TestP2_1SizesThatMayNotBe(t *testing.T) {
	for _, size := range []int{
		math.MinInt, math.MinInt + 16, -1 << 32, -4096, -16, -1, 0, 1, 2, 4, 8, 15, 17, 24, 31, 33, 48, 4080, 4095, 4097, 6144, 8192,
		1 << 16, 1<<32 + 16, 1 << 40, 1 << 62, math.MaxInt,
	} {
		if m, err := image.New(size); m != nil || err != api.ErrArg {
			t.Errorf("New(%d) is %v, %v", size, m, err)
		}
	}
	for size := range 8300 {
		if slices.Contains(allSizes(), size) {
			continue
		}
		if m, err := image.New(size); m != nil || err != api.ErrArg {
			t.Fatalf("New(%d) is %v, %v", size, m, err)
		}
		if m, err := image.Of(make([]byte, size)); m != nil || err != api.ErrArg {
			t.Fatalf("Of(%d bytes) is %v, %v", size, m, err)
		}
	}
	if m, err := image.Of(nil); m != nil || err != api.ErrArg {
		t.Errorf("Of(nil) is %v, %v", m, err)
	}
	if m, err := image.Of(make([]byte, 1<<20)); m != nil || err != api.ErrArg {
		t.Errorf("Of(2^20 bytes) is %v, %v", m, err)
	}
}

func TestP2_1OfSharesNothing(t *testing.T) {
	whole := pattern(64)
	given := whole[16:32]
	m, _ := image.Of(given)
	clear(whole)
	checkBytes(t, m, pattern(64)[16:32])
	copy(whole, pattern(64))
	for addr := range uint32(16) {
		m.Write(addr, 1, ^uint32(whole[16+addr]))
	}
	if !bytes.Equal(whole, pattern(64)) {
		t.Error("a write to the image changed what was handed in, or what lies about it")
	}
}

func TestP2_1BytesSharesNothing(t *testing.T) {
	m := made(t, 32)
	first, second := m.Bytes(), m.Bytes()
	clear(first[:cap(first)])
	checkBytes(t, m, pattern(32))
	if !bytes.Equal(second, pattern(32)) {
		t.Error("two answers of Bytes share memory")
	}
	m.Write(0, 4, ^valueAt(pattern(32)[:4]))
	if !bytes.Equal(second, pattern(32)) {
		t.Error("a write to the image changed an answer of Bytes")
	}
}

func TestP2_1CopyGoesOnApart(t *testing.T) {
	for _, size := range allSizes() {
		m := made(t, size)
		other := m.Copy()
		if other == nil || other == m || other.Size() != size || !image.Same(m, other) {
			t.Fatalf("Copy of %d bytes is %v", size, other)
		}
		m.Write(0, 1, ^uint32(pattern(size)[0]))
		checkBytes(t, other, pattern(size))
		changed := m.Bytes()
		other.SetLine(uint32(size)/16-1, [16]byte{})
		checkBytes(t, m, changed)
		if image.Same(m, other) {
			t.Error("images that went on apart are the same")
		}
	}
}

func TestP2_1Same(t *testing.T) {
	nought, _ := image.New(16)
	noughts, _ := image.New(16)
	longer, _ := image.New(32)
	if !image.Same(nought, nought) || !image.Same(nought, noughts) || !image.Same(made(t, 4096), made(t, 4096)) {
		t.Error("images of the same bytes are not the same")
	}
	if image.Same(nought, longer) || image.Same(longer, nought) {
		t.Error("images of other sizes are the same")
	}
	for at := range uint32(32) {
		a, b := made(t, 32), made(t, 32)
		b.Write(at, 1, valueAt(pattern(32)[at:at+1])^128)
		if image.Same(a, b) || image.Same(b, a) {
			t.Error("images of which byte", at, "differs are the same")
		}
	}
}

// none is each way in which there may be no image.
func none() []*image.Image {
	refused, _ := image.New(48)
	return []*image.Image{nil, {}, new(image.Image), refused}
}

func TestP2_1NoImage(t *testing.T) {
	some, _ := image.New(16)
	for i, m := range none() {
		if m.Size() != 0 || m.Bytes() != nil || m.Copy() != nil {
			t.Error("no image", i, "tells", m.Size(), m.Bytes(), m.Copy())
		}
		if image.Same(m, some) || image.Same(some, m) {
			t.Error("no image", i, "is like an image")
		}
		for j, other := range none() {
			if !image.Same(m, other) {
				t.Error("no image", i, "is not like no image", j)
			}
		}
	}
}

// place is what Read and Write are asked for, and whether they refuse it.
type place struct {
	size  int
	addr  uint32
	width int
	err   api.Errno
}

// refusedPlaces is places that are refused of an image, those where several errors apply among them.
func refusedPlaces() []place {
	return []place{
		{16, 0, 3, api.ErrArg}, {16, 0, 0, api.ErrArg}, {16, 0, -1, api.ErrArg}, {16, 0, -4, api.ErrArg}, {16, 0, 5, api.ErrArg},
		{16, 0, 8, api.ErrArg}, {16, 0, 16, api.ErrArg}, {16, 0, 32, api.ErrArg}, {4096, 0, 6, api.ErrArg},
		{16, 0, math.MaxInt, api.ErrArg}, {16, 0, math.MinInt, api.ErrArg}, {16, 0, 1<<32 + 1, api.ErrArg}, {16, 0, 1<<32 + 4, api.ErrArg}, {16, 0, 256 + 4, api.ErrArg},
		{16, 1, 2, api.ErrAlign}, {16, 15, 2, api.ErrAlign}, {16, 1, 4, api.ErrAlign}, {16, 2, 4, api.ErrAlign}, {16, 3, 4, api.ErrAlign},
		{16, 13, 4, api.ErrAlign}, {16, 14, 4, api.ErrAlign}, {16, 15, 4, api.ErrAlign}, {4096, 4094, 4, api.ErrAlign}, {4096, 4095, 2, api.ErrAlign},
		{16, 16, 1, api.ErrRange}, {16, 16, 2, api.ErrRange}, {16, 16, 4, api.ErrRange}, {16, 17, 1, api.ErrRange}, {16, 32, 4, api.ErrRange},
		{4096, 4096, 1, api.ErrRange}, {4096, 4096, 2, api.ErrRange}, {4096, 4096, 4, api.ErrRange}, {4096, 8192, 4, api.ErrRange},
		{16, 1 << 16, 1, api.ErrRange}, {4096, 1 << 31, 4, api.ErrRange}, {16, 1<<31 + 4, 4, api.ErrRange},
		{16, most, 1, api.ErrRange}, {4096, most, 1, api.ErrRange}, {4096, most - 1, 2, api.ErrRange}, {4096, most - 3, 4, api.ErrRange},
		// Several errors: the width goes first, then what it does not divide, then the range.
		{16, 1, 3, api.ErrArg}, {16, 2, 8, api.ErrArg}, {16, 16, 3, api.ErrArg}, {16, 17, 0, api.ErrArg}, {16, most, -2, api.ErrArg}, {4096, most, 8, api.ErrArg},
		{16, 17, 2, api.ErrAlign}, {16, 18, 4, api.ErrAlign}, {4096, 4097, 4, api.ErrAlign}, {16, most, 2, api.ErrAlign}, {4096, most, 4, api.ErrAlign}, {16, most - 1, 4, api.ErrAlign},
	}
}

func TestP2_2Refused(t *testing.T) {
	for _, p := range refusedPlaces() {
		m := made(t, p.size)
		if value, err := m.Read(p.addr, p.width); value != 0 || err != p.err {
			t.Errorf("Read%v is %d, %v", p, value, err)
		}
		if err := m.Write(p.addr, p.width, 0x12345678); err != p.err {
			t.Errorf("Write%v is %v", p, err)
		}
		checkBytes(t, m, pattern(p.size)) // P2.4: what is refused changes nothing
	}
}

func TestP2_2NoImage(t *testing.T) {
	for i, m := range none() {
		for _, p := range append(refusedPlaces(), place{addr: 0, width: 4}) { // no image goes first
			if value, err := m.Read(p.addr, p.width); value != 0 || err != api.ErrNil {
				t.Errorf("Read%v of no image %d is %d, %v", p, i, value, err)
			}
			if err := m.Write(p.addr, p.width, 7); err != api.ErrNil {
				t.Errorf("Write%v of no image %d is %v", p, i, err)
			}
		}
		if m.Size() != 0 {
			t.Error("a refused write made an image", i)
		}
	}
}

func TestP2_2Examples(t *testing.T) {
	m, _ := image.New(16)
	if err := m.Write(4, 4, 0x12345678); err != api.OK {
		t.Error(err)
	}
	for _, r := range []struct {
		addr  uint32
		width int
		want  uint32
	}{{4, 1, 0x78}, {5, 1, 0x56}, {6, 1, 0x34}, {7, 1, 0x12}, {4, 2, 0x5678}, {6, 2, 0x1234}, {4, 4, 0x12345678}, {0, 4, 0}, {8, 4, 0}} {
		if got, err := m.Read(r.addr, r.width); got != r.want || err != api.OK {
			t.Errorf("Read(%d, %d) is %x, %v", r.addr, r.width, got, err)
		}
	}
}

// TestP2_2EveryPlace reads and writes all places, first and last among them, at each width.
func TestP2_2EveryPlace(t *testing.T) {
	for _, size := range allSizes() {
		for _, width := range []int{1, 2, 4} {
			m, want := made(t, size), pattern(size)
			for at := 0; at < size; at += width {
				if got, err := m.Read(uint32(at), width); got != valueAt(want[at:at+width]) || err != api.OK {
					t.Fatalf("of %d bytes Read(%d, %d) is %x, %v", size, at, width, got, err)
				}
				if err := m.Write(uint32(at), width, uint32(at)*0x01030507+0x89abcdef); err != api.OK {
					t.Fatalf("of %d bytes Write(%d, %d) is %v", size, at, width, err)
				}
				for i := range width {
					want[at+i] = byte((uint32(at)*0x01030507 + 0x89abcdef) >> (8 * i))
				}
			}
			checkBytes(t, m, want)
		}
	}
}

func TestP2_2LowestBitsAlone(t *testing.T) {
	for _, r := range []struct {
		width int
		want  []byte
	}{
		{1, []byte{0x98, 0, 0, 0, 0}},
		{2, []byte{0x98, 0xba, 0, 0, 0}},
		{4, []byte{0x98, 0xba, 0xdc, 0xfe, 0}},
	} {
		m, _ := image.New(16)
		m.Write(8, r.width, 0xfedcba98)
		want := make([]byte, 16)
		copy(want[8:], r.want)
		checkBytes(t, m, want)
	}
}

func TestP2_3Lines(t *testing.T) {
	for _, size := range allSizes() {
		m, want := made(t, size), pattern(size)
		for number := range uint32(size / 16) {
			place := want[number*16 : number*16+16]
			if line, err := m.Line(number); line != [16]byte(place) || err != api.OK {
				t.Fatalf("of %d bytes Line(%d) is % x, %v", size, number, line, err)
			}
			slices.Reverse(place)
			place[3] ^= 255
			if err := m.SetLine(number, [16]byte(place)); err != api.OK {
				t.Fatalf("of %d bytes SetLine(%d) is %v", size, number, err)
			}
			checkBytes(t, m, want)
			if line, _ := m.Line(number); line != [16]byte(place) {
				t.Fatalf("of %d bytes Line(%d) behind SetLine is % x", size, number, line)
			}
		}
	}
}

func TestP2_3Example(t *testing.T) {
	m, _ := image.New(16)
	m.Write(4, 4, 0x12345678)
	if line, err := m.Line(0); line != [16]byte{0, 0, 0, 0, 0x78, 0x56, 0x34, 0x12} || err != api.OK {
		t.Errorf("Line(0) is % x, %v", line, err)
	}
}

func TestP2_3Refused(t *testing.T) {
	for _, size := range allSizes() {
		m, count := made(t, size), uint32(size/16)
		for _, number := range []uint32{count, count + 1, 2 * count, 256, 257, 4096, 1 << 27, 1 << 28, 1<<28 + 1, 1 << 31, most - 15, most} { // 2^28 times 16 is 2^32
			if line, err := m.Line(number); line != [16]byte{} || err != api.ErrRange {
				t.Errorf("of %d bytes Line(%d) is % x, %v", size, number, line, err)
			}
			if err := m.SetLine(number, [16]byte{1, 2, 3}); err != api.ErrRange {
				t.Errorf("of %d bytes SetLine(%d) is %v", size, number, err)
			}
		}
		checkBytes(t, m, pattern(size)) // P2.4: what is refused changes nothing
	}
}

func TestP2_3NoImage(t *testing.T) {
	for i, m := range none() {
		for _, number := range []uint32{0, 1, 256, most} {
			if line, err := m.Line(number); line != [16]byte{} || err != api.ErrNil {
				t.Errorf("Line(%d) of no image %d is % x, %v", number, i, line, err)
			}
			if err := m.SetLine(number, [16]byte{1}); err != api.ErrNil {
				t.Errorf("SetLine(%d) of no image %d is %v", number, i, err)
			}
		}
	}
}

func TestP2_3SharesNothing(t *testing.T) {
	m := made(t, 32)
	line, _ := m.Line(1)
	line[0] ^= 255
	checkBytes(t, m, pattern(32))
	m.SetLine(1, line)
	set := m.Bytes()
	line[1] ^= 255
	checkBytes(t, m, set)
	kept, _ := m.Line(1)
	before := kept
	m.SetLine(1, [16]byte{})
	if kept != before {
		t.Error("SetLine changed an answer of Line")
	}
}

// TestP2_4ReadBehindWrite holds what is read, and what all bytes are, behind a write at each place.
func TestP2_4ReadBehindWrite(t *testing.T) {
	for _, value := range []uint32{0, 1, 0x7f, 0x80, 0xff, 0x100, 0x8000, 0xffff, 0x10000, 0x12345678, 0xdeadbeef, 1 << 31, most} {
		for _, width := range []int{1, 2, 4} {
			for at := uint32(0); at < 64; at += uint32(width) {
				m, want := made(t, 64), pattern(64)
				m.Write(at, width, value)
				kept := uint32(uint64(value) & (1<<(8*width) - 1))
				if got, err := m.Read(at, width); got != kept || err != api.OK {
					t.Fatalf("Read(%d, %d) behind a write of %x is %x, %v", at, width, value, got, err)
				}
				after := m.Bytes()
				if !bytes.Equal(after[:at], want[:at]) || !bytes.Equal(after[at+uint32(width):], want[at+uint32(width):]) {
					t.Fatalf("Write(%d, %d) changed what lies elsewhere", at, width)
				}
			}
		}
	}
}

// read is a read that must go well.
func read(t *testing.T, m *image.Image, addr uint32, width int) uint32 {
	t.Helper()
	value, err := m.Read(addr, width)
	if err != api.OK {
		t.Fatalf("Read(%d, %d) is %v", addr, width, err)
	}
	return value
}

func TestP2_4HalvesAndBytes(t *testing.T) {
	m := made(t, 4096)
	for at := uint32(0); at < 4096; at += 4 {
		whole := read(t, m, at, 4)
		if whole != read(t, m, at, 2)+read(t, m, at+2, 2)<<16 {
			t.Fatalf("the value at %d is not that of its halves", at)
		}
		if whole != read(t, m, at, 1)+read(t, m, at+1, 1)<<8+read(t, m, at+2, 1)<<16+read(t, m, at+3, 1)<<24 {
			t.Fatalf("the value at %d is not that of its bytes", at)
		}
	}
	byWord, byHalves, byBytes := made(t, 16), made(t, 16), made(t, 16)
	byWord.Write(12, 4, 0xfedcba98)
	for i := range uint32(2) {
		byHalves.Write(12+2*i, 2, 0xfedcba98>>(16*i))
	}
	for i := range uint32(4) {
		byBytes.Write(12+i, 1, 0xfedcba98>>(8*i))
	}
	if !image.Same(byWord, byHalves) || !image.Same(byWord, byBytes) {
		t.Error("a value that is written by halves or by bytes is another one")
	}
}
