package net

import (
	"fmt"
	"math"
	"math/big"
	"math/rand"
	"reflect"
	"slices"
	"strings"
	"testing"

	"dovecote/api"
)

// full is a message whose fields are none of them 0, told from others by its term.
func full(term int) api.Rpc {
	return api.Rpc{
		Kind: api.AskAppend, From: 1, To: 2, Term: term, Index: 3, LogTerm: 4, Commit: 5, Ok: true,
		Entries: []api.Entry{{Index: 6, Term: 7, Kind: api.EntryData, Data: "a"}, {Index: 8, Term: 9, Kind: api.EntryConf, Data: "b"}},
		Members: []int{1, 2, 3},
		Data:    "snapshot",
	}
}

// terms tells messages by what tells them from each other.
func terms(l []api.Rpc) string {
	var s []string
	for _, m := range l {
		s = append(s, fmt.Sprint(m.Term))
	}
	return strings.Join(s, " ")
}

func (n *Net) put(term, now, pick int) {
	n.Put(api.Rpc{Term: term}, now, pick)
}

func takes(t *testing.T, n *Net, now int, want string) {
	t.Helper()
	if got := terms(n.Take(now)); got != want {
		t.Errorf("Take(%d): %q, want %q", now, got, want)
	}
}

func counts(t *testing.T, n *Net, want int) {
	t.Helper()
	if got := n.Count(); got != want {
		t.Errorf("Count: %d, want %d", got, want)
	}
}

// worked: picks and how long behind Put their message comes, worked out by hand from the chapter's words.
var worked = []struct {
	pick   int
	delays []int
}{
	{0, []int{1}}, {1, nil}, {2, []int{2}}, {3, []int{1, 2}},
	{4, []int{1}}, {5, nil}, {6, []int{3}}, {7, []int{1, 3}},
	{8, []int{1}}, {9, nil}, {10, []int{4}}, {11, []int{1, 4}},
	{12, []int{1}}, {13, nil}, {14, []int{5}}, {15, []int{1, 5}},
	{16, []int{1}}, {17, nil}, {18, []int{6}}, {19, []int{1, 6}},
	{20, []int{1}}, {21, nil}, {22, []int{7}}, {23, []int{1, 7}},
	{24, []int{1}}, {25, nil}, {26, []int{8}}, {27, []int{1, 8}},
	{28, []int{1}}, {29, nil}, {30, []int{9}}, {31, []int{1, 9}},
	{32, []int{1}}, {33, nil}, {34, []int{2}}, {35, []int{1, 2}}, // from the beginning again
	{38, []int{3}}, {63, []int{1, 9}}, {66, []int{2}}, {402, []int{6}}, // 402 is 4 times 100, and 2
	// Below 0: -1 is 4 times -1, and 3; of -1 is left 7, modulo 8.
	{-1, []int{1, 9}}, {-2, []int{9}}, {-3, nil}, {-4, []int{1}},
	{-5, []int{1, 8}}, {-6, []int{8}}, {-7, nil}, {-8, []int{1}},
	{-9, []int{1, 7}}, {-10, []int{7}}, {-11, nil}, {-12, []int{1}},
	{-13, []int{1, 6}}, {-14, []int{6}}, {-15, nil}, {-16, []int{1}},
	{-17, []int{1, 5}}, {-18, []int{5}}, {-19, nil}, {-20, []int{1}},
	{-21, []int{1, 4}}, {-22, []int{4}}, {-23, nil}, {-24, []int{1}},
	{-25, []int{1, 3}}, {-26, []int{3}}, {-27, nil}, {-28, []int{1}},
	{-29, []int{1, 2}}, {-30, []int{2}}, {-31, nil}, {-32, []int{1}},
	{-33, []int{1, 9}}, {-34, []int{9}}, {-35, nil}, {-36, []int{1}},
	{math.MaxInt, []int{1, 9}}, {math.MaxInt - 1, []int{9}}, {math.MaxInt - 2, nil}, {math.MaxInt - 3, []int{1}},
	{math.MinInt, []int{1}}, {math.MinInt + 1, nil}, {math.MinInt + 2, []int{2}}, {math.MinInt + 3, []int{1, 2}},
}

// clocks: times of Put from which all delays lead to others.
var clocks = []int{0, 1, 7, 100, api.MaxTime, math.MaxInt - 9, -1, -2, -5, -9, -100, math.MinInt}

func TestEachPick(t *testing.T) { // P14.1
	for _, c := range worked {
		for _, now := range clocks {
			n := New()
			n.Put(full(1), now, c.pick)
			counts(t, n, len(c.delays))
			for delay := range 10 {
				l := n.Take(now + delay)
				if there := slices.Contains(c.delays, delay); there != (len(l) == 1) || len(l) > 1 {
					t.Errorf("Put at %d by %d: %d messages come behind %d", now, c.pick, len(l), delay)
				}
			}
			counts(t, n, 0)
		}
	}
}

func TestTakeAtAheadBehind(t *testing.T) { // P14.1
	for _, c := range worked {
		for _, wait := range []int{-1000, -1, 0, 1, 2, 3, 4, 5, 6, 7, 8, 9, 10, 1000} {
			n := New()
			n.Put(full(1), 500, c.pick)
			want := 0
			for _, delay := range c.delays {
				if delay <= wait {
					want++
				}
			}
			if got := len(n.Take(500 + wait)); got != want {
				t.Errorf("pick %d: %d messages behind %d, want %d", c.pick, got, wait, want)
			}
			counts(t, n, len(c.delays)-want)
		}
	}
	n := New()
	n.put(1, 10, 2+4*3) // at 15
	for _, now := range []int{14, 10, 9, 0, -1, math.MinInt, 14} {
		takes(t, n, now, "")
		counts(t, n, 1)
	}
	takes(t, n, 15, "1")
	n.put(2, 10, 2+4*3)
	takes(t, n, 16, "2")
	n.put(3, 10, 2+4*3)
	takes(t, n, math.MaxInt, "3")
	counts(t, n, 0)
}

func TestNothingComesAtItsOwnTime(t *testing.T) { // P14.1
	n := New()
	for _, now := range clocks {
		n.put(1, now, 0)
		takes(t, n, now, "")
		takes(t, n, now+1, "1")
	}
}

func TestTimesBeyondAllInts(t *testing.T) { // P14.1: now + 1 is above now: what comes behind the greatest int is never told
	n := New()
	n.put(1, math.MaxInt, 0)
	n.put(2, math.MaxInt-8, 2+4*7) // one beyond
	n.put(3, math.MaxInt-8, 2+4*6) // at the greatest
	n.put(4, math.MaxInt-1, 3)     // at the greatest, and one beyond
	n.put(5, math.MaxInt, -1)      // two
	n.put(6, math.MinInt, 0)
	counts(t, n, 8)
	takes(t, n, math.MinInt, "")
	takes(t, n, math.MinInt+1, "6")
	takes(t, n, -1, "")
	takes(t, n, 0, "")
	takes(t, n, math.MaxInt-1, "")
	takes(t, n, math.MaxInt, "3 4")
	takes(t, n, math.MaxInt, "")
	counts(t, n, 5)
	n.Clear()
	counts(t, n, 0)
}

func TestOrder(t *testing.T) { // P14.1
	for _, c := range []struct {
		puts [][2]int // now, pick
		want string
	}{
		{[][2]int{{0, 0}, {0, 0}, {0, 0}}, "1 2 3"},
		{[][2]int{{2, 0}, {1, 0}, {0, 0}}, "3 2 1"},
		{[][2]int{{0, 2}, {0, 0}}, "2 1"},
		{[][2]int{{0, 3}, {0, 0}, {0, 2}}, "1 2 1 3"},
		{[][2]int{{0, 2}, {0, 3}, {1, 0}}, "2 1 2 3"},
		{[][2]int{{1, 0}, {0, 2}, {1, 3}, {0, 3}}, "4 1 2 3 4 3"},
		{[][2]int{{0, 30}, {1, 26}, {8, 0}, {7, 2}}, "1 2 3 4"}, // all at 9
		{[][2]int{{7, 2}, {8, 0}, {1, 26}, {0, 30}, {7, 0}}, "5 1 2 3 4"},
		{[][2]int{{0, 30}, {0, 26}, {0, 22}, {0, 18}, {0, 14}, {0, 10}, {0, 6}, {0, 2}, {0, 0}}, "9 8 7 6 5 4 3 2 1"},
		{[][2]int{{0, 31}, {0, 27}, {0, 1}, {0, 31}}, "1 2 4 2 1 4"},
		{[][2]int{{-3, 0}, {-9, 30}, {5, 0}, {-1, 0}}, "1 2 4 3"}, // below 0, at it, above it
		{[][2]int{{math.MaxInt - 1, 0}, {math.MinInt, 0}, {0, 0}}, "2 3 1"},
	} {
		n := New()
		for i, p := range c.puts {
			n.put(i+1, p[0], p[1])
		}
		takes(t, n, math.MaxInt, c.want)
		counts(t, n, 0)
	}
}

func TestOrderOfManyOfOneTime(t *testing.T) { // P14.1: an order that is kept by luck is lost among many
	n := New()
	var want []string
	for i := range 3000 {
		delay := i*7%8 + 2
		n.put(i, 100-delay, 2+4*(delay-2))
		want = append(want, fmt.Sprint(i))
	}
	takes(t, n, 100, strings.Join(want, " "))
}

func TestOrderStaysBehindTakes(t *testing.T) { // P14.1: what is left keeps its order, and comes ahead of what is put in later
	n := New()
	n.put(1, 0, 2)  // 2
	n.put(2, 0, 0)  // 1
	n.put(3, 0, 6)  // 3
	n.put(4, 0, 2)  // 2
	n.put(5, 0, 3)  // 1, 2
	n.put(6, 0, 30) // 9
	takes(t, n, 1, "2 5")
	counts(t, n, 5)
	n.put(7, 1, 0) // 2
	n.put(8, 0, 0) // 1: late, and still ahead of the others
	takes(t, n, 2, "8 1 4 5 7")
	n.put(9, 8, 0) // 9
	n.put(10, 2, 0)
	takes(t, n, 3, "3 10")
	takes(t, n, 9, "6 9")
	counts(t, n, 0)
}

func TestToldOnce(t *testing.T) { // P14.1, P14.2
	n := New()
	n.put(1, 0, 0)
	n.put(2, 0, 3)
	takes(t, n, 1, "1 2")
	counts(t, n, 1)
	takes(t, n, 1, "")
	takes(t, n, 2, "2")
	for _, now := range []int{2, 1, 3, 100, math.MaxInt} {
		takes(t, n, now, "")
		counts(t, n, 0)
	}
}

func TestClearAndCount(t *testing.T) { // P14.1
	n := New()
	counts(t, n, 0)
	takes(t, n, math.MaxInt, "")
	n.Clear()
	counts(t, n, 0)
	for i, c := range []struct{ pick, want int }{{0, 1}, {1, 1}, {2, 2}, {3, 4}, {5, 4}, {-1, 6}, {-3, 6}} {
		n.put(i, 0, c.pick)
		counts(t, n, c.want)
	}
	n.Clear()
	counts(t, n, 0)
	takes(t, n, math.MaxInt, "")
	n.put(9, 0, 3)
	counts(t, n, 2)
	takes(t, n, 1, "9")
	counts(t, n, 1)
	n.Clear()
	takes(t, n, 2, "")
	counts(t, n, 0)
}

// crowded is a net with so many messages on their way, which come at 9.
func crowded(count int) *Net {
	n := New()
	for range count {
		n.put(0, 8, 0)
	}
	return n
}

func TestRoom(t *testing.T) { // P14.1
	for _, c := range []struct {
		there, pick int
		count       int
		want        string // of the one that is put in last
	}{
		{4094, 0, 4095, "1@1"},
		{4095, 0, 4096, "1@1"},
		{4096, 0, 4096, ""},
		{4095, 1, 4095, ""},
		{4096, 1, 4096, ""},
		{4095, 2, 4096, "1@2"},
		{4096, 2, 4096, ""},
		{4094, 3, 4096, "1@1 1@2"},
		{4095, 3, 4096, "1@1"}, // the first of two has room
		{4096, 3, 4096, ""},
		{4095, -5, 4096, "1@1"},
	} {
		n := crowded(c.there)
		counts(t, n, c.there)
		n.put(1, 0, c.pick)
		counts(t, n, c.count)
		var got []string
		for now := range 9 {
			for _, m := range n.Take(now) {
				got = append(got, fmt.Sprint(m.Term, "@", now))
			}
		}
		if s := strings.Join(got, " "); s != c.want {
			t.Errorf("%d on their way, pick %d: %q, want %q", c.there, c.pick, s, c.want)
		}
		if l := n.Take(9); len(l) != c.there {
			t.Errorf("%d on their way, pick %d: %d come", c.there, c.pick, len(l))
		}
		counts(t, n, 0)
	}
}

func TestRoomComesBack(t *testing.T) { // P14.1: what has come, or is lost, is not on its way any more
	n := crowded(5000)
	counts(t, n, 4096)
	n.put(1, 0, 0)
	takes(t, n, 8, "")
	if l := n.Take(9); len(l) != 4096 {
		t.Errorf("%d come", len(l))
	}
	for range 3 {
		n.put(2, 9, 3)
		counts(t, n, 2)
		for range 5000 {
			n.put(3, 9, 2)
		}
		counts(t, n, 4096)
		takes(t, n, 10, "2")
		counts(t, n, 4095)
		n.put(4, 9, 3)
		counts(t, n, 4096)
		takes(t, n, 10, "4")
		n.put(5, 9, 2)
		n.put(6, 9, 2)
		l := n.Take(11)
		if len(l) != 4096 || l[0].Term != 2 || l[1].Term != 3 || l[4094].Term != 3 || l[4095].Term != 5 {
			t.Errorf("%d come", len(l))
		}
		for range 5000 {
			n.put(7, 9, 3)
		}
		counts(t, n, 4096)
		n.Clear()
		counts(t, n, 0)
	}
}

func TestFullNetTellsFirstTwice(t *testing.T) { // P14.1: 2048 doubled messages are 4096
	n := New()
	for i := range 2050 {
		n.put(i, 0, 3)
	}
	counts(t, n, 4096)
	for now := 1; now <= 2; now++ {
		l := n.Take(now)
		if len(l) != 2048 || l[0].Term != 0 || l[2047].Term != 2047 {
			t.Errorf("%d come at %d", len(l), now)
		}
	}
	counts(t, n, 0)
}

func TestComesAsItWasPutIn(t *testing.T) { // P14.2
	for _, m := range []api.Rpc{
		{},
		full(1),
		{Kind: -1, From: math.MinInt, To: math.MaxInt, Term: -7, Index: math.MaxInt, LogTerm: math.MinInt, Commit: -1},
		{Kind: 99, Ok: true, Data: "\x00\xff\xc0\x80"},
		{Entries: []api.Entry{{}}, Members: []int{0}},
		{Entries: make([]api.Entry, 600), Members: make([]int, 600), Data: strings.Repeat("x", 1<<20)},
		{Members: []int{3, 3, -1, 0, 1 << 40}},
	} {
		for _, pick := range []int{0, 2, 3, 31} {
			n := New()
			n.Put(m, 0, pick)
			var l []api.Rpc
			for now := range 10 {
				l = append(l, n.Take(now)...)
			}
			if want := 1 + pick&1; len(l) != want {
				t.Errorf("pick %d: %d come, want %d", pick, len(l), want)
			}
			for _, got := range l {
				if !reflect.DeepEqual(got, m) {
					t.Errorf("pick %d: %v, want %v", pick, got, m)
				}
			}
		}
	}
}

func TestEmptyListsStayEmpty(t *testing.T) { // P14.2: a nil list and an empty one are one
	n := New()
	n.Put(api.Rpc{Entries: []api.Entry{}, Members: []int{}}, 0, 3)
	for now := 1; now <= 2; now++ {
		if l := n.Take(now); len(l) != 1 || len(l[0].Entries) != 0 || len(l[0].Members) != 0 {
			t.Errorf("%v", l)
		}
	}
}

// spoil writes over all of a message's lists, and their spare room.
func spoil(m *api.Rpc) {
	for i := range m.Entries[:cap(m.Entries)] {
		m.Entries[:cap(m.Entries)][i] = api.Entry{Index: -1, Data: "spoilt"}
	}
	for i := range m.Members[:cap(m.Members)] {
		m.Members[:cap(m.Members)][i] = -1
	}
	m.Entries = append(m.Entries, api.Entry{Data: "more"})
	m.Members = append(m.Members, -2)
	m.Term, m.Data = -3, "spoilt"
}

func TestHandedIn(t *testing.T) { // P14.2, R2: what is handed in is neither changed nor kept
	n := New()
	for _, pick := range []int{0, 2, 3} {
		whole := full(1)
		m := whole
		m.Entries, m.Members = m.Entries[:1], m.Members[:2] // with spare room
		n.Put(m, 0, pick)
		if !reflect.DeepEqual(whole, full(1)) || len(m.Entries) != 1 || len(m.Members) != 2 {
			t.Errorf("changed: %v", whole)
		}
		spoil(&m)
		want := full(1)
		want.Entries, want.Members = want.Entries[:1], want.Members[:2]
		for _, got := range n.Take(9) {
			if !reflect.DeepEqual(got, want) {
				t.Errorf("pick %d: %v", pick, got)
			}
			spoil(&got)
		}
		if whole.Entries[0].Data != "spoilt" || whole.Members[0] != -1 || whole.Term != 1 {
			t.Errorf("what was handed in is the net's: %v", whole)
		}
	}
}

func TestToldIsNobodyElses(t *testing.T) { // P14.2, R2: what is told is the caller's own
	n := New()
	m := full(1)
	n.Put(m, 0, 3)
	n.Put(m, 0, 3)
	n.Put(m, 0, 6)
	first := n.Take(1)
	spoil(&first[0])
	if !reflect.DeepEqual(first[1], full(1)) {
		t.Errorf("of one time: %v", first[1])
	}
	spoil(&first[1])
	clear(first[:cap(first)])
	rest := n.Take(3)
	if len(rest) != 3 {
		t.Fatalf("%d come", len(rest))
	}
	for i := range rest {
		if !reflect.DeepEqual(rest[i], full(1)) {
			t.Errorf("%d: %v", i, rest[i])
		}
		spoil(&rest[i])
	}
	if !reflect.DeepEqual(m, full(1)) {
		t.Errorf("what was handed in: %v", m)
	}
}

func TestToldStays(t *testing.T) { // R2: whatever is done to the net later
	n := New()
	n.Put(full(1), 0, 0)
	n.Put(full(2), 0, 2)
	n.Put(full(3), 0, 3)
	l := n.Take(1)
	for i := range 20 {
		n.Put(api.Rpc{Term: 10 + i, Entries: []api.Entry{{Data: "other"}}, Members: []int{7}}, 0, 3)
	}
	n.Take(1)
	n.Clear()
	n.Put(api.Rpc{Term: 99}, 0, 0)
	if !reflect.DeepEqual(l, []api.Rpc{full(1), full(3)}) {
		t.Errorf("%v", l)
	}
	takes(t, n, 1, "99")
}

func TestNetsApart(t *testing.T) { // R2: objects have nothing in common
	a, b := New(), New()
	a.put(1, 0, 0)
	counts(t, b, 0)
	takes(t, b, 1, "")
	b.put(2, 0, 0)
	b.put(3, 0, 2)
	counts(t, a, 1)
	a.Clear()
	counts(t, b, 2)
	takes(t, b, 2, "2 3")
	var bare Net // R1: one that New did not make has no messages
	counts(t, &bare, 0)
	takes(t, &bare, 1, "")
	bare.put(4, 0, 3)
	takes(t, &bare, 2, "4 4")
	bare.Clear()
}

// model is a net by the chapter's words, in the plainest way: with times as great as may be, the earliest looked for one by one.
type model struct {
	way []timed
}

type timed struct {
	m    api.Rpc
	time *big.Int
}

func (o *model) put(m api.Rpc, now, pick int) {
	quarter, fate := new(big.Int).DivMod(big.NewInt(int64(pick)), big.NewInt(4), new(big.Int)) // what is left is from 0 on
	late := new(big.Int).Mod(quarter, big.NewInt(8)).Int64() + 2
	for _, delay := range [][]int64{{1}, {}, {late}, {1, late}}[fate.Int64()] {
		if len(o.way) < 4096 {
			o.way = append(o.way, timed{m, new(big.Int).Add(big.NewInt(int64(now)), big.NewInt(delay))})
		}
	}
}

func (o *model) take(now int) (told []api.Rpc) {
	for {
		next := -1
		for i, w := range o.way {
			if w.time.Cmp(big.NewInt(int64(now))) <= 0 && (next < 0 || w.time.Cmp(o.way[next].time) < 0) {
				next = i
			}
		}
		if next < 0 {
			return told
		}
		told = append(told, o.way[next].m)
		o.way = slices.Delete(o.way, next, next+1)
	}
}

// anyTime is a time near one that moves on, or an edge.
func anyTime(r *rand.Rand, near int) int {
	switch r.Intn(40) {
	case 0:
		return math.MaxInt - r.Intn(12)
	case 1:
		return math.MinInt + r.Intn(12)
	}
	return near + r.Intn(12) - 6
}

func anyPick(r *rand.Rand) int {
	if r.Intn(20) == 0 {
		return int(r.Uint64())
	}
	return r.Intn(200) - 100
}

func TestAgainstModel(t *testing.T) { // P14.1, P14.2
	for seed := range 60 {
		r := rand.New(rand.NewSource(int64(seed)))
		n, o := New(), &model{}
		came := map[int]int{}
		for step := range 2000 {
			switch k := r.Intn(100); {
			case k < 80:
				m, now, pick := full(step), anyTime(r, step/20), anyPick(r)
				n.Put(m, now, pick)
				o.put(full(step), now, pick)
				spoil(&m)
			case k < 99:
				now := anyTime(r, step/20)
				got, want := n.Take(now), o.take(now)
				if len(got) != len(want) || len(got) > 0 && !reflect.DeepEqual(got, want) {
					t.Fatalf("seed %d, step %d: Take(%d): %q, want %q", seed, step, now, terms(got), terms(want))
				}
				for i := range got {
					if came[got[i].Term]++; came[got[i].Term] > 2 {
						t.Fatalf("seed %d: %d comes a third time", seed, got[i].Term)
					}
					spoil(&got[i])
				}
			case r.Intn(10) == 0:
				n.Clear()
				o.way = nil
			}
			if n.Count() != len(o.way) {
				t.Fatalf("seed %d, step %d: Count %d, want %d", seed, step, n.Count(), len(o.way))
			}
		}
	}
}

func TestFullAgainstModel(t *testing.T) { // P14.1: where there is hardly any room
	r := rand.New(rand.NewSource(1))
	n, o := New(), &model{}
	for step := range 4500 {
		pick := anyPick(r)
		n.put(step, 100, pick)
		o.put(api.Rpc{Term: step}, 100, pick)
	}
	for now := 90; now < 112; now++ {
		if got, want := n.Take(now), o.take(now); terms(got) != terms(want) {
			t.Fatalf("Take(%d): %d come, want %d", now, len(got), len(want))
		}
		for range 300 {
			pick := anyPick(r)
			n.put(-now, now, pick)
			o.put(api.Rpc{Term: -now}, now, pick)
			counts(t, n, len(o.way))
		}
	}
}

func TestAtMostTwice(t *testing.T) { // P14.2
	n := New()
	for pick := -300; pick < 300; pick++ {
		n.put(pick, 0, pick)
	}
	came := map[int]int{}
	for now := range 12 {
		for _, m := range n.Take(now) {
			came[m.Term]++
		}
	}
	for pick := -300; pick < 300; pick++ {
		if want := []int{1, 0, 1, 2}[(pick+300)%4]; came[pick] != want {
			t.Errorf("pick %d: %d times, want %d", pick, came[pick], want)
		}
	}
}
