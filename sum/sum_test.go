package sum

import (
	"bytes"
	"hash/crc32"
	"math"
	"math/rand"
	"strings"
	"testing"
)

// known: sums that are written down elsewhere too.
var known = []struct {
	b string
	s uint32
}{
	{"123456789", 0xcbf43926}, // the chapter's example
	{"", 0},
	{"\x00", 0xd202ef8d},
	{"\xff", 0xff000000},
	{"a", 0xe8b7be43},
	{"abc", 0x352441c2},
	{"message digest", 0x20159d7f},
	{"abcdefghijklmnopqrstuvwxyz", 0x4c2750bd},
	{"The quick brown fox jumps over the lazy dog", 0x414fa339},
	{strings.Repeat("\x00", 4), 0x2144df1c},
	{strings.Repeat("\xff", 4), 0xffffffff},
	{strings.Repeat("\x00", 32), 0x190a55ad},
	{strings.Repeat("\xff", 32), 0xff6cab0b},
}

// aheads: sums that may stand ahead, of which every one is the sum of some bytes.
var aheads = []uint32{
	0, 1, 2, 0x7f, 0x80, 0xff, 0x100, 0xffff, 0x10000, 0x12345678, 0xcbf43926, 0xedb88320, 0x04c11db7,
	math.MaxInt32, 1 << 31, 1<<31 + 1, math.MaxUint32 - 1, math.MaxUint32,
}

// bitByBit tells the sum by the words of the chapter: a bit at a time, the lowest of a byte first.
func bitByBit(s uint32, b []byte) uint32 {
	c := s ^ math.MaxUint32
	for i := range 8 * len(b) {
		bit := uint32(b[i/8]>>(i%8)) & 1
		if (c&1)^bit == 1 {
			c = c>>1 ^ 0xedb88320
		} else {
			c >>= 1
		}
	}
	return c ^ math.MaxUint32
}

// some tells n bytes, the same ones for the same n.
func some(n int) []byte {
	b := make([]byte, n)
	rand.New(rand.NewSource(int64(n))).Read(b)
	return b
}

func checkSum(t *testing.T, s uint32, b []byte) {
	t.Helper()
	got := Sum(s, b)
	if want := bitByBit(s, b); got != want {
		t.Errorf("Sum(%#x, %d bytes) = %#x, want %#x", s, len(b), got, want)
	}
	if want := crc32.Update(s, crc32.IEEETable, b); got != want {
		t.Errorf("Sum(%#x, %d bytes) = %#x, the library tells %#x", s, len(b), got, want)
	}
}

func TestSumIsCRC32(t *testing.T) { // P9.1
	for _, c := range known {
		if s := Sum(0, []byte(c.b)); s != c.s {
			t.Errorf("Sum(0, %q) = %#x, want %#x", c.b, s, c.s)
		}
	}
}

func TestSumOfNothingIsWhatStoodAhead(t *testing.T) { // P9.1
	for _, s := range aheads {
		for _, b := range [][]byte{nil, {}, make([]byte, 0, 8), some(8)[3:3]} {
			if got := Sum(s, b); got != s {
				t.Errorf("Sum(%#x, nothing) = %#x", s, got)
			}
		}
	}
}

func TestSumOfSingleBytes(t *testing.T) { // P9.1
	told := map[uint32]int{}
	for v := range 256 {
		b := []byte{byte(v)}
		for _, s := range aheads {
			checkSum(t, s, b)
		}
		s := Sum(0, b)
		if other, there := told[s]; there {
			t.Errorf("bytes %#x and %#x have one sum, %#x", other, v, s)
		}
		told[s] = v
	}
}

func TestSumOfEveryLength(t *testing.T) { // P9.1
	for n := range 600 {
		for _, s := range aheads {
			checkSum(t, s, some(n))
		}
	}
}

func TestSumOfLongBytes(t *testing.T) { // P9.1
	for _, n := range []int{1 << 12, 1<<16 - 1, 1 << 16, 1<<16 + 1, 1 << 20, 1<<22 + 7} {
		checkSum(t, 0, some(n))
		checkSum(t, 0xcbf43926, some(n))
		checkSum(t, 0, make([]byte, n))
		checkSum(t, 0, bytes.Repeat([]byte{0xff}, n))
	}
}

func TestZeroBytesCount(t *testing.T) { // P9.1: a sum begun with zeros would not tell them apart
	told := map[uint32]int{}
	for n := range 1000 {
		s := Sum(0, make([]byte, n))
		if other, there := told[s]; there {
			t.Errorf("%d and %d zeros have one sum, %#x", other, n, s)
		}
		told[s] = n
	}
}

func TestSumOfPartsIsThatOfAll(t *testing.T) { // P9.2
	for _, n := range []int{0, 1, 2, 3, 9, 64, 257, 1000} {
		b := some(n)
		for _, s := range aheads {
			want := Sum(s, b)
			for cut := range n + 1 {
				if got := Sum(Sum(s, b[:cut]), b[cut:]); got != want {
					t.Fatalf("%#x, %d bytes cut at %d: %#x, in one: %#x", s, n, cut, got, want)
				}
			}
		}
	}
}

func TestSumOfManyPartsIsThatOfAll(t *testing.T) { // P9.2
	b := some(5000)
	want := Sum(0, b)
	for _, size := range []int{1, 2, 3, 7, 32, 4096, 4999, 5000, 9000} {
		s := uint32(0)
		for at := 0; at < len(b); at += size {
			s = Sum(s, b[at:min(at+size, len(b))])
			s = Sum(s, nil)
		}
		if s != want {
			t.Errorf("in parts of %d: %#x, in one: %#x", size, s, want)
		}
	}
}

func TestTurnedBitChangesSum(t *testing.T) { // P9.2
	for _, n := range []int{1, 2, 3, 4, 5, 9, 33, 300} {
		for _, b := range [][]byte{some(n), make([]byte, n), bytes.Repeat([]byte{0xff}, n)} {
			for _, s := range aheads {
				checkTurned(t, s, b)
			}
		}
	}
}

func checkTurned(t *testing.T, s uint32, b []byte) {
	t.Helper()
	whole := Sum(s, b)
	for i := range 8 * len(b) {
		b[i/8] ^= 1 << (i % 8)
		if Sum(s, b) == whole {
			t.Fatalf("%#x, %d bytes: bit %d turned, the sum is still %#x", s, len(b), i, whole)
		}
		b[i/8] ^= 1 << (i % 8)
	}
	for i := range 32 {
		if Sum(s^1<<i, b) == whole {
			t.Fatalf("%d bytes: bit %d of %#x turned ahead, the sum is still %#x", len(b), i, s, whole)
		}
	}
}

func TestSumHangsOnNothingElse(t *testing.T) { // R1: not on what stands around the bytes, nor on earlier calls
	for n := range 40 {
		want := Sum(7, some(n))
		for _, around := range []byte{0x00, 0x5a, 0xff} {
			room := bytes.Repeat([]byte{around}, n+20)
			copy(room[5:], some(n))
			Sum(0x5a5a5a5a, room)
			if got := Sum(7, room[5:5+n]); got != want {
				t.Errorf("%d bytes amid %#x: %#x, alone: %#x", n, around, got, want)
			}
		}
	}
}

func TestGivenBytesAreNotChanged(t *testing.T) { // R2
	for _, n := range []int{0, 1, 9, 100, 1 << 16} {
		room := some(n + 16)
		before := bytes.Clone(room)
		for _, s := range aheads {
			Sum(s, room[8:8+n])
		}
		if !bytes.Equal(room, before) {
			t.Errorf("%d bytes have been changed, or what stands around them", n)
		}
	}
}
