package quorum

import (
	"errors"
	"fmt"
	"math"
	"math/rand"
	"slices"
	"strings"
	"testing"

	"dovecote/api"
)

// number tells the number of an error, 0: there is none; it has no other number within it, and tells its layer.
func number(t *testing.T, what string, e error) api.Errno {
	t.Helper()
	if e == nil {
		return 0
	}
	var n api.Errno
	if !errors.As(e, &n) {
		t.Errorf("%s: error %v without a number", what, e)
	}
	for other := api.ErrForm; other <= api.ErrFull; other++ {
		if other != n && errors.Is(e, other) {
			t.Errorf("%s: error %v has %v within it, too", what, e, other)
		}
	}
	var f *api.Fault
	if !errors.As(e, &f) || f.Layer != "quorum" {
		t.Errorf("%s: error %v does not tell its layer", what, e)
	}
	return n
}

func want(t *testing.T, what string, e error, n api.Errno) {
	t.Helper()
	if got := number(t, what, e); got != n {
		t.Errorf("%s: error %v, want number %d", what, e, n)
	}
}

// greatest is MaxNodes as the chapters have it; sets how many lists of members there are.
const (
	greatest = 7
	sets     = 1 << greatest
)

// set are the members of that number: one a bit.
func set(n int) (m []int) {
	for k := range greatest {
		if n>>k&1 == 1 {
			m = append(m, k+1)
		}
	}
	return m
}

// count tells how many of m there are: once each.
func count(m []int) int {
	there := map[int]bool{}
	for _, k := range m {
		there[k] = true
	}
	return len(there)
}

// common are the members of a that are in b, too.
func common(a, b []int) (m []int) {
	for _, k := range a {
		if slices.Contains(b, k) {
			m = append(m, k)
		}
	}
	return m
}

// wrong: lists that are none of members, by each way.
var wrong = [][]int{
	{0}, {-1}, {math.MinInt}, {0, 1}, {-3, 1, 2}, {1, 0}, {1, 2, 0},
	{8}, {9}, {256}, {257}, {-255}, {1 << 32}, {1<<32 + 1}, {math.MaxInt}, {1, 8}, {1, 2, 3, 4, 5, 6, 7, 8}, {6, 7, 257},
	{1, 1}, {7, 7}, {1, 2, 2}, {1, 1, 2}, {1, 2, 3, 3, 4}, {1, 2, 3, 4, 5, 6, 7, 7},
	{2, 1}, {1, 3, 2}, {3, 1, 2}, {1, 2, 3, 4, 5, 7, 6}, {7, 6, 5, 4, 3, 2, 1}, {5, 1, 5}, {1, 2, 1, 2},
	{0, 0, 0, 0, 0, 0, 0, 0, 0}, {1, 1, 1, 1, 1, 1, 1, 1, 1},
}

// TestCheck: P16.1.
func TestCheck(t *testing.T) {
	for n := range sets {
		want(t, fmt.Sprint(set(n)), Check(set(n)), 0)
	}
	want(t, "an empty list", Check([]int{}), 0)
	for _, m := range wrong {
		want(t, fmt.Sprint(m), Check(m), api.ErrForm)
	}
}

// TestCheckAll: of all lists of up to four small numbers those that rise from 1 to MaxNodes, and no others: P16.1.
func TestCheckAll(t *testing.T) {
	lists := [][]int{nil}
	for range 4 {
		for _, m := range slices.Clone(lists) {
			for k := -1; k <= greatest+1; k++ {
				lists = append(lists, append(slices.Clone(m), k))
			}
		}
		for _, m := range lists {
			is := true
			for i, k := range m {
				is = is && 1 <= k && k <= 7 && (i == 0 || m[i-1] < k)
			}
			if e := Check(m); (e == nil) != is {
				t.Fatalf("%v: %v", m, e)
			}
		}
		lists = slices.DeleteFunc(lists, func(m []int) bool { return Check(m) != nil && len(m) > 2 })
	}
}

// TestWrong: ErrForm ahead of all, by each call that takes members, and nothing beside it: P16.1, P16.2.
func TestWrong(t *testing.T) {
	for _, m := range wrong {
		what := fmt.Sprint(m)
		for _, votes := range [][]int{nil, m, {1, 2, 3, 4, 5, 6, 7}} {
			is, e := Enough(m, votes)
			want(t, what+" Enough", e, api.ErrForm)
			if is {
				t.Errorf("%s: Enough beside an error", what)
			}
		}
		for _, match := range [][]int{nil, slices.Repeat([]int{3}, len(m)), slices.Repeat([]int{-3}, len(m)), {5}} {
			n, e := Index(m, match)
			want(t, what+" Index", e, api.ErrForm)
			if n != 0 {
				t.Errorf("%s: Index %d beside an error", what, n)
			}
		}
		others := [][]int{nil, m, {1}, {1, 2}, m[1:], m[:len(m)-1], append(slices.Clone(m), 7)}
		for _, other := range others {
			a, e := Change(m, other)
			want(t, what+" Change of it", e, api.ErrForm)
			b, f := Change(other, m)
			want(t, what+" Change to it", f, api.ErrForm)
			if a || b {
				t.Errorf("%s: Change beside an error", what)
			}
		}
		s, e := Bytes(m)
		want(t, what+" Bytes", e, api.ErrForm)
		if s != "" {
			t.Errorf("%s: Bytes %q beside an error", what, s)
		}
	}
}

func enough(t *testing.T, m, votes []int, is bool) {
	t.Helper()
	got, e := Enough(m, votes)
	want(t, fmt.Sprint(m, votes), e, 0)
	if got != is {
		t.Errorf("Enough(%v, %v): %v", m, votes, got)
	}
}

// TestExample: the chapter's: P16.1.
func TestExample(t *testing.T) {
	enough(t, []int{1, 2, 3}, []int{1, 3}, true)
	if n, e := Index([]int{1, 2, 3}, []int{5, 2, 9}); n != 5 || e != nil {
		t.Errorf("Index: %d, %v", n, e)
	}
}

// TestEnough: half, one more and one less, and votes that weigh nothing: P16.1.
func TestEnough(t *testing.T) {
	for _, c := range []struct {
		m, votes []int
		is       bool
	}{
		{nil, nil, false}, {nil, []int{1, 2, 3}, false}, {[]int{}, []int{}, false}, {nil, []int{0}, false},
		{[]int{1}, nil, false}, {[]int{1}, []int{}, false}, {[]int{1}, []int{1}, true}, {[]int{7}, []int{1}, false}, {[]int{7}, []int{7}, true},
		{[]int{1, 2}, []int{1}, false}, {[]int{1, 2}, []int{2}, false}, {[]int{1, 2}, []int{2, 1}, true}, {[]int{1, 2}, []int{2, 2}, false},
		{[]int{1, 2, 3, 4}, []int{2, 4}, false}, {[]int{1, 2, 3, 4}, []int{4, 1, 2}, true}, {[]int{1, 2, 3, 4}, []int{4}, false}, {[]int{1, 2, 3, 4}, []int{4, 1, 5, 6, 7}, false},
		{[]int{2, 4, 6}, []int{1, 3, 5, 7}, false}, {[]int{2, 4, 6}, []int{1, 3, 5, 7, 6}, false}, {[]int{2, 4, 6}, []int{1, 6, 3, 2, 5, 7}, true},
		{[]int{1, 2, 3, 4, 5}, []int{1, 1, 1, 2, 2, 2}, false}, {[]int{1, 2, 3, 4, 5}, []int{1, 1, 1, 2, 2, 2, 5}, true},
		{[]int{1, 2, 3}, []int{-1, 0, 8, 257, math.MinInt, math.MaxInt, 1}, false}, {[]int{1, 2, 3}, []int{-1, 0, 8, 2, 257, math.MinInt, math.MaxInt, 1}, true},
		{[]int{1, 2, 3}, []int{-1, -2, -3}, false}, {[]int{1, 2, 3}, []int{257, 258, 259, 1<<32 + 1, 1<<32 + 2}, false},
	} {
		enough(t, c.m, c.votes, c.is)
	}
}

// TestEnoughOfAll: each list of members with each set of votes, as they rise and otherwise: P16.1.
func TestEnoughOfAll(t *testing.T) {
	r := rand.New(rand.NewSource(16))
	for a := range sets {
		for v := range sets {
			m, votes := set(a), set(v)
			is := 2*len(common(m, votes)) > len(m)
			enough(t, m, votes, is)
			slices.Reverse(votes)
			enough(t, m, votes, is)
			for range r.Intn(4) {
				votes = append(votes, -r.Intn(9), greatest+1+r.Intn(300))
			}
			votes = append(votes, votes...)
			r.Shuffle(len(votes), func(i, k int) { votes[i], votes[k] = votes[k], votes[i] })
			enough(t, m, votes, is)
		}
	}
}

// TestIndex: P16.1.
func TestIndex(t *testing.T) {
	for _, c := range []struct {
		m, match []int
		n        int
	}{
		{nil, nil, 0}, {[]int{}, []int{}, 0},
		{[]int{4}, []int{7}, 7}, {[]int{4}, []int{0}, 0}, {[]int{4}, []int{math.MaxInt}, math.MaxInt},
		{[]int{1, 2}, []int{5, 2}, 2}, {[]int{1, 2}, []int{2, 5}, 2}, {[]int{1, 2}, []int{5, 5}, 5}, {[]int{1, 2}, []int{0, 5}, 0},
		{[]int{1, 4, 7}, []int{9, 2, 5}, 5}, {[]int{1, 4, 7}, []int{2, 2, 5}, 2}, {[]int{1, 4, 7}, []int{5, 2, 5}, 5}, {[]int{1, 4, 7}, []int{0, 0, 5}, 0},
		{[]int{1, 2, 3, 4}, []int{1, 9, 9, 4}, 4}, {[]int{1, 2, 3, 4}, []int{9, 9, 9, 4}, 9}, {[]int{1, 2, 3, 4}, []int{9, 8, 1, 2}, 2},
		{[]int{1, 2, 3, 4, 5}, []int{0, 0, 0, 9, 9}, 0}, {[]int{1, 2, 3, 4, 5}, []int{5, 4, 3, 2, 1}, 3},
		{[]int{1, 2, 3, 4, 5, 6}, []int{6, 5, 4, 3, 2, 1}, 3}, {[]int{1, 2, 3, 4, 5, 6, 7}, []int{1, 7, 2, 6, 3, 5, 4}, 4},
	} {
		what := fmt.Sprint(c.m, c.match)
		n, e := Index(c.m, c.match)
		want(t, what, e, 0)
		if n != c.n {
			t.Errorf("Index(%v, %v): %d, want %d", c.m, c.match, n, c.n)
		}
	}
}

// TestIndexWrong: fewer and more than members, and a number below 0 at each place: P16.1.
func TestIndexWrong(t *testing.T) {
	for a := range sets {
		m := set(a)
		for n := range 10 {
			match := slices.Repeat([]int{6}, n)
			if n != len(m) {
				got, e := Index(m, match)
				want(t, fmt.Sprint(m, match), e, api.ErrForm)
				if got != 0 {
					t.Errorf("%v, %v: %d beside an error", m, match, got)
				}
			}
		}
		for i := range m {
			for _, k := range []int{-1, math.MinInt} {
				match := slices.Repeat([]int{6}, len(m))
				match[i] = k
				got, e := Index(m, match)
				want(t, fmt.Sprint(m, match), e, api.ErrForm)
				if got != 0 {
					t.Errorf("%v, %v: %d beside an error", m, match, got)
				}
			}
		}
	}
}

// TestIndexOfAll: what Index tells more than half have, and nothing greater, of each list of members: P16.1.
func TestIndexOfAll(t *testing.T) {
	r := rand.New(rand.NewSource(161))
	for a := range sets {
		for range 60 {
			m := set(a)
			match := make([]int, len(m))
			for i := range match {
				match[i] = r.Intn(1 + r.Intn(12))
			}
			n, e := Index(m, match)
			want(t, fmt.Sprint(m, match), e, 0)
			have := func(n int) bool {
				some := 0
				for _, k := range match {
					if k >= n {
						some++
					}
				}
				return 2*some > len(m)
			}
			if len(m) == 0 && n != 0 || len(m) > 0 && (!have(n) || have(n+1)) {
				t.Fatalf("Index(%v, %v): %d", m, match, n)
			}
		}
	}
}

// TestChange: P16.2.
func TestChange(t *testing.T) {
	for _, c := range []struct {
		a, b []int
		is   bool
	}{
		{nil, nil, false}, {nil, []int{1}, true}, {[]int{}, []int{7}, true}, {nil, []int{1, 2}, false},
		{[]int{1}, nil, false}, {[]int{1}, []int{}, false}, {[]int{1, 2}, nil, false},
		{[]int{1}, []int{1}, false}, {[]int{1}, []int{2}, false}, {[]int{1}, []int{1, 2}, true}, {[]int{2}, []int{1, 3}, false},
		{[]int{2, 4}, []int{1, 2, 4}, true}, {[]int{2, 4}, []int{2, 3, 4}, true}, {[]int{2, 4}, []int{2, 4, 5}, true},
		{[]int{2, 4, 6}, []int{4, 6}, true}, {[]int{2, 4, 6}, []int{2, 6}, true}, {[]int{2, 4, 6}, []int{2, 4}, true},
		{[]int{2, 4, 6}, []int{3, 6}, false}, {[]int{2, 4, 6}, []int{2, 4, 5, 7}, false}, {[]int{2, 4, 6}, []int{2, 4, 7}, false},
		{[]int{2, 4, 6}, []int{2}, false}, {[]int{2}, []int{2, 4, 6}, false}, {[]int{1, 2, 3}, []int{5, 6, 7}, false},
		{[]int{1, 2, 3}, []int{4, 5, 6, 7}, false}, {[]int{1, 2, 3, 4, 5, 6}, []int{1, 2, 3, 4, 5, 6, 7}, true},
	} {
		is, e := Change(c.a, c.b)
		want(t, fmt.Sprint(c.a, c.b), e, 0)
		if is != c.is {
			t.Errorf("Change(%v, %v): %v", c.a, c.b, is)
		}
	}
}

// TestChangeOfAll: each list of members with each other: they differ by just one, and the second is not empty: P16.2.
func TestChangeOfAll(t *testing.T) {
	for a := range sets {
		for b := range sets {
			apart := a ^ b
			is := b != 0 && apart != 0 && apart&(apart-1) == 0
			got, e := Change(set(a), set(b))
			if got != is || e != nil {
				t.Fatalf("Change(%v, %v): %v, %v", set(a), set(b), got, e)
			}
		}
	}
}

// TestBytes: there and back for each list of members: P16.2.
func TestBytes(t *testing.T) {
	for n := range sets {
		m := set(n)
		s, e := Bytes(m)
		want(t, fmt.Sprint(m), e, 0)
		if len(s) != len(m) {
			t.Fatalf("%v: %q", m, s)
		}
		for i, k := range m {
			if int(s[i]) != k {
				t.Fatalf("%v: %q", m, s)
			}
		}
		back, e := Parse(s)
		want(t, fmt.Sprintf("%q", s), e, 0)
		if !slices.Equal(back, m) {
			t.Errorf("%q: %v, want %v", s, back, m)
		}
	}
	if s, e := Bytes([]int{}); s != "" || e != nil {
		t.Errorf("an empty list: %q, %v", s, e)
	}
}

// TestParse: bytes that are members, and those that are none: P16.2.
func TestParse(t *testing.T) {
	texts := []string{
		"", "\x00", "\x01\x00", "\x08", "\x07\x08", "0", "123", "\x02\x01", "\x01\x01", "\x01\x02\x02", "\xff", "\x80", "\x01\x02\x03\x04\x05\x06\x07", "\x01\x02\x03\x04\x05\x06\x07\x08",
		"\u0101", "\xc4\x81", "\x01\x02\x03\x04\x05\x06\x07\x07", "\x01\x02\x03\x04\x05\x06\x07\x00", strings.Repeat("\x01", 300), strings.Repeat("\x01\x02\x03\x04\x05\x06\x07", 50), "\x01 \x02", "\x01\n",
	}
	for a := range 256 {
		texts = append(texts, string([]byte{byte(a)}))
		for b := range 256 {
			texts = append(texts, string([]byte{byte(a), byte(b)}), string([]byte{1, byte(a), byte(b)}))
		}
	}
	for _, s := range texts {
		is, last := true, 0
		for i := range len(s) {
			k := int(s[i])
			is = is && last < k && k <= 7
			last = k
		}
		m, e := Parse(s)
		if !is {
			want(t, fmt.Sprintf("%q", s), e, api.ErrForm)
			if len(m) > 0 {
				t.Fatalf("%q: %v beside an error", s, m)
			}
			continue
		}
		if b, f := Bytes(m); b != s || e != nil || f != nil {
			t.Fatalf("%q: %v, %v", s, m, e)
		}
	}
}

// TestCommon: two that are enough, of members and of a change of them, have a member in common: P16.3.
func TestCommon(t *testing.T) {
	for a := range sets {
		for b := range sets {
			if is, _ := Change(set(a), set(b)); is {
				inCommon(t, set(a), set(b))
			}
		}
		inCommon(t, set(a), set(a))
	}
}

func inCommon(t *testing.T, a, b []int) {
	t.Helper()
	for _, v := range enoughOf(t, a) {
		for _, w := range enoughOf(t, b) {
			if len(common(common(common(v, w), a), b)) == 0 {
				t.Fatalf("of %v the votes %v, of %v the votes %v", a, v, b, w)
			}
		}
	}
}

// enoughOf are the sets of members of m that are enough: there are some, where there are members.
func enoughOf(t *testing.T, m []int) (all [][]int) {
	t.Helper()
	for n := range sets {
		v := set(n)
		if is, _ := Enough(m, v); is && len(common(v, m)) == len(v) {
			all = append(all, v)
		}
	}
	if len(m) > 0 && len(all) == 0 {
		t.Fatalf("%v: none are enough", m)
	}
	return all
}

// roomy is l with spare room behind it, which a mark fills.
func roomy(l []int) []int {
	r := append(slices.Clone(l), 77, 77, 77)
	return r[:len(l)]
}

// whole tells whether l, handed in by roomy, is as it was, its spare room too.
func whole(l, was []int) bool {
	return slices.Equal(l, was) && slices.Equal(l[len(l):len(l)+3], []int{77, 77, 77})
}

// TestHandedIn: nothing of it is changed: R2.
func TestHandedIn(t *testing.T) {
	for _, c := range [][2][]int{{{1, 2, 3}, {9, 2, 5}}, {{1, 2, 3}, {3, 2, 1}}, {{1, 2, 3}, {1, 2}}, {{1, 3}, {1, 2, 3}}, {{3, 1}, {5, 4}}, {nil, nil}, {{1, 2, 4, 7}, {4, 3, 2, 1}}} {
		a, b := roomy(c[0]), roomy(c[1])
		Check(a)
		Enough(a, b)
		Index(a, b)
		Change(a, b)
		Change(b, a)
		Bytes(a)
		if !whole(a, c[0]) || !whole(b, c[1]) {
			t.Errorf("%v: %v, %v", c, a, b)
		}
	}
}

// TestTold: what is told is new memory: R2.
func TestTold(t *testing.T) {
	s := "\x01\x02\x05"
	a, _ := Parse(s)
	b, _ := Parse(s)
	a[0] = 9
	_ = append(b[:1], 9)
	c, _ := Parse(s)
	if !slices.Equal(c, []int{1, 2, 5}) || b[0] != 1 {
		t.Errorf("%v, %v", b, c)
	}
	m := []int{1, 2, 5}
	told, _ := Bytes(m)
	m[0] = 9
	if told != s {
		t.Errorf("%q", told)
	}
}

// TestManyVotes: the call ends whatever it is given: R1.
func TestManyVotes(t *testing.T) {
	many := make([]int, 1<<20)
	enough(t, set(sets-1), many, false)
	enough(t, set(sets-1), append(many, 7, 6, 5, 4), true)
	if _, e := Index(set(sets-1), many); number(t, "Index", e) != api.ErrForm {
		t.Error("Index of more than members")
	}
	if _, e := Parse(strings.Repeat("\x01", 1<<20)); number(t, "Parse", e) != api.ErrForm {
		t.Error("Parse of a long text")
	}
}
