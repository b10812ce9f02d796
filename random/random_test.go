package random

import (
	"math"
	"math/big"
	"testing"
)

const top = math.MaxUint64

// worked: numbers and what follows them, worked out by hand from the chapter's words.
var worked = []struct{ s, next uint64 }{
	{1, 0x40822041}, // the chapter's example: 0x2001, then 0x2041
	{0, 0xdc1b77ae0bf34dad},
	{0x9e3779b97f4a7c15, 0xdc1b77ae0bf34dad}, // 0x7100565030c8dc15, then 0x71e256fc90a94dad
	{2, 0x81044082},
	{3, 0xc18660c3},       // as 1 xor 2
	{top, 0x3f801fc0},     // 0x1fff, then 0x1fc0
	{top - 1, 0x7f023f81}, // as the greatest xor 1
	{top >> 1, 0x810000003f801fc0},
	{0x0123456789abcdef, 0x3f2800d6569e01b4}, // 0x698fb452f0162def, then 0x695cab3a55f601b4
	{88172645463325252, 8748534153485358512}, // written down elsewhere too
	// Single bits: of bit i come i, i+13, i-7, i+6, and each of these 17 higher; these stand at both sides of where a shift drives one out, and with it what comes of it.
	{1 << 6, 0x1020881040},
	{1 << 7, 0x2041122081},
	{1 << 33, 0x8104488204000000},
	{1 << 34, 0x0208910408000000},
	{1 << 40, 0x8224410200000000},
	{1 << 41, 0x0448820400000000},
	{1 << 46, 0x8910408000000000},
	{1 << 47, 0x1220810000000000},
	{1 << 50, 0x9104080000000000},
	{1 << 51, 0x2008100000000000},
	{1 << 53, 0x8020400000000000},
	{1 << 54, 0x0040800000000000},
	{1 << 57, 0x0204000000000000},
	{1 << 58, 0x0408000000000000},
	{1 << 63, 0x8100000000000000},
}

// seeds: where runs begin.
var seeds = []uint64{
	0, 1, 2, 7, 10, 0xff, 1 << 31, 1 << 32, 1<<32 + 1, 1 << 62, 1 << 63, top, top - 1, top >> 1,
	0x9e3779b97f4a7c15, 0x5555555555555555, 0xaaaaaaaaaaaaaaaa, 0x0123456789abcdef, 88172645463325252,
}

// bounds: ordinary ones, powers of two and their neighbours, the greatest.
var bounds = []int{
	1, 2, 3, 4, 5, 6, 7, 8, 9, 10, 11, 12, 13, 100, 127, 128, 129, 150, 255, 256, 257, 1000, 65535, 65536, 65537, 1000003,
	math.MaxInt32 - 1, math.MaxInt32, 1 << 31, 1<<32 - 1, 1 << 32, 1<<32 + 1,
	1<<61 - 1, 1 << 62, 1<<62 + 1, math.MaxInt - 1, math.MaxInt,
}

// bitByBit tells what follows s by the chapter's words: each bit against the one that a shift lays upon it.
func bitByBit(s uint64) uint64 {
	if s == 0 {
		s = 0x9e3779b97f4a7c15
	}
	for _, left := range []int{13, -7, 17} {
		was := s
		for i := range 64 {
			if from := i - left; 0 <= from && from < 64 && was>>from&1 == 1 {
				s ^= 1 << i
			}
		}
	}
	return s
}

// ahead tells which number, 0 apart, s follows: it undoes the steps, the last one first.
func ahead(s uint64) uint64 {
	s = undo(s, func(x uint64) uint64 { return x << 17 })
	s = undo(s, func(x uint64) uint64 { return x >> 7 })
	return undo(s, func(x uint64) uint64 { return x << 13 })
}

// undo tells the x of which x xor shift(x) is s: each turn sets right at least one more bit.
func undo(s uint64, shift func(uint64) uint64) uint64 {
	x := s
	for range 64 {
		x = s ^ shift(x)
	}
	return x
}

// rank tells how many of l are no xor of others.
func rank(l []uint64) int {
	var highest [64]uint64
	n := 0
	for _, v := range l {
		for i := 63; i >= 0; i-- {
			if v>>i&1 == 0 {
				continue
			}
			if highest[i] == 0 {
				highest[i] = v
				n++
				break
			}
			v ^= highest[i]
		}
	}
	return n
}

func modulo(s uint64, n int) int {
	m := new(big.Int).Mod(new(big.Int).SetUint64(s), big.NewInt(int64(n)))
	return int(m.Int64())
}

func TestNextIsWhatIsWorkedOut(t *testing.T) { // P13.1
	for _, c := range worked {
		if n := Next(c.s); n != c.next {
			t.Errorf("Next(%#x) = %#x, want %#x", c.s, n, c.next)
		}
	}
}

func TestNextOfZeroIsThatOfItsStandIn(t *testing.T) { // P13.1
	if Next(0) != Next(0x9e3779b97f4a7c15) || Next(0) == Next(1) {
		t.Errorf("Next(0) = %#x, Next(0x9e3779b97f4a7c15) = %#x", Next(0), Next(0x9e3779b97f4a7c15))
	}
}

func TestNextOfSingleBitsAndPairs(t *testing.T) { // P13.1
	for i := range 64 {
		for k := range i + 1 {
			s := uint64(1)<<i | uint64(1)<<k
			if n, want := Next(s), bitByBit(s); n != want {
				t.Errorf("Next(%#x) = %#x, want %#x", s, n, want)
			}
			if n, want := Next(^s), bitByBit(^s); n != want {
				t.Errorf("Next(%#x) = %#x, want %#x", ^s, n, want)
			}
		}
	}
}

func TestNextInRuns(t *testing.T) { // P13.1
	for _, s := range seeds {
		for range 2000 {
			n := Next(s)
			if want := bitByBit(s); n != want {
				t.Fatalf("Next(%#x) = %#x, want %#x", s, n, want)
			}
			s = n
		}
	}
}

func TestNextFarOn(t *testing.T) { // P13.1
	for _, c := range []struct {
		s, next uint64
		steps   int
	}{
		{1, 0x100041060c011441, 2},
		{1, 0x9b1e842f6e862629, 3},
		{1, 0x73a397e1324c252e, 10},
		{1, 0x9e8b2325c8f3382d, 1000},
		{88172645463325252, 3040900993826735515, 2},
		{88172645463325252, 3453997556048239312, 3},
		{88172645463325252, 0x12eaead265975125, 1000},
	} {
		n := c.s
		for range c.steps {
			n = Next(n)
		}
		if n != c.next {
			t.Errorf("%d steps from %#x: %#x, want %#x", c.steps, c.s, n, c.next)
		}
	}
}

func TestBelowIsWhatIsWorkedOut(t *testing.T) { // P13.1
	for _, c := range []struct {
		s    uint64
		n    int
		want int
	}{
		{1, 1, 0},
		{1, 2, 1}, // 0x40822041 is 1082269761
		{1, 3, 0},
		{1, 10, 1},
		{1, 1000, 761},
		{1, 0x40822040, 1},
		{1, 0x40822041, 0},
		{1, 0x40822042, 0x40822041},
		{1, 1 << 62, 0x40822041},
		{1, math.MaxInt, 0x40822041},
		{1 << 63, 2, 0}, // 0x8100000000000000, which no int holds
		{1 << 63, 7, 5}, // of 2^63 is left 1, of 2^56 4
		{1 << 63, 10, 4},
		{1 << 63, math.MaxInt, 0x0100000000000001},
		{0, 10, 9}, // 15860402102123842989
		{0, 1000, 989},
		{0, math.MaxInt, 0x5c1b77ae0bf34dae},
		{top, 0x2000, 0x1fc0},
	} {
		if _, k := Below(c.s, c.n); k != c.want {
			t.Errorf("Below(%#x, %d) tells %d, want %d", c.s, c.n, k, c.want)
		}
	}
}

func TestBelowIsNextModuloBound(t *testing.T) { // P13.1
	for _, s := range seeds {
		for range 100 {
			for _, n := range bounds {
				next, k := Below(s, n)
				if next != Next(s) {
					t.Fatalf("Below(%#x, %d) tells %#x, Next %#x", s, n, next, Next(s))
				}
				if want := modulo(next, n); k != want || k < 0 || k >= n {
					t.Fatalf("Below(%#x, %d) tells %d, want %d", s, n, k, want)
				}
			}
			s = Next(s)
		}
	}
}

func TestBelowWithoutRoom(t *testing.T) { // P13.1
	for _, s := range seeds {
		for _, n := range []int{0, -1, -2, -5, -10, math.MinInt32, math.MinInt + 1, math.MinInt} {
			if next, k := Below(s, n); next != Next(s) || k != 0 {
				t.Errorf("Below(%#x, %d) = %#x, %d; want %#x, 0", s, n, next, k, Next(s))
			}
		}
	}
}

func TestBelowReachesAll(t *testing.T) { // P13.1: each number below the bound comes up
	for _, n := range []int{1, 2, 3, 7, 10, 16, 100} {
		told := make([]int, n)
		s := uint64(1)
		for range 100 * n {
			var k int
			s, k = Below(s, n)
			told[k]++
		}
		for k, times := range told {
			if times == 0 {
				t.Errorf("%d below %d has not come up", k, n)
			}
		}
	}
}

func TestRunsAreNeverZeroNorStandStill(t *testing.T) { // P13.2
	for _, first := range seeds {
		s := first
		for range 100000 {
			n, k := Below(s, math.MaxInt)
			if n == 0 || n == s || n != Next(s) {
				t.Fatalf("from %#x: behind %#x comes %#x, with %d", first, s, n, k)
			}
			s = n
		}
	}
}

func TestRunsDoNotComeRound(t *testing.T) { // P13.2
	told := map[uint64]int{}
	s := uint64(0)
	for i := range 100000 {
		s = Next(s)
		if other, there := told[s]; there {
			t.Fatalf("%#x comes at %d and at %d", s, other, i)
		}
		told[s] = i
	}
}

func TestNextCanBeUndone(t *testing.T) { // P13.2: no two lead to one, and 0 is led to by itself alone
	if ahead(0) != 0 {
		t.Fatalf("0 follows %#x", ahead(0))
	}
	for _, s := range seeds {
		for range 1000 {
			n := Next(s)
			if s != 0 && ahead(n) != s {
				t.Fatalf("Next(%#x) = %#x, which follows %#x", s, n, ahead(n))
			}
			s = n
		}
	}
}

func TestNoNumberLeadsToZeroNorToItself(t *testing.T) { // P13.2: as Next of a xor is the xor of Nexts, single bits speak for all
	var nexts, changes []uint64
	for i := range 64 {
		s := uint64(1) << i
		nexts = append(nexts, Next(s))
		changes = append(changes, Next(s)^s)
	}
	if rank(nexts) != 64 || rank(changes) != 64 {
		t.Errorf("of 64 bits %d lead on, %d away", rank(nexts), rank(changes))
	}
	for _, a := range seeds {
		for _, b := range seeds {
			if a != 0 && b != 0 && a != b && Next(a^b) != Next(a)^Next(b) {
				t.Errorf("Next(%#x xor %#x) is not the xor of theirs", a, b)
			}
		}
	}
}

func TestCallsHangOnNothingElse(t *testing.T) { // R1: not on earlier calls
	for _, s := range seeds {
		n := Next(s)
		m, k := Below(s, 1000)
		for _, other := range seeds {
			Next(other)
			Below(other, 7)
			Below(other, -1)
			m2, k2 := Below(s, 1000)
			if Next(s) != n || m2 != m || k2 != k {
				t.Fatalf("%#x: %#x, then %#x; below 1000: %d, then %d", s, n, Next(s), k, k2)
			}
		}
	}
}
