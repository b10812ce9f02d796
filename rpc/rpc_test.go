package rpc

import (
	"bytes"
	"errors"
	"fmt"
	"math"
	"math/rand"
	"slices"
	"strings"
	"testing"

	"dovecote/api"
)

// Bounds as the chapters have them.
const (
	nodes      = 7
	greatest   = 1<<40 - 1 // of a term, and of a message's index
	lastEntry  = 1 << 40   // an entry's greatest index
	lastSnap   = 1<<40 - 2048
	mostSent   = 16
	mostData   = 4096
	mostBytes  = 1 << 19 // of a snapshot
	mostFramed = 1 << 21
)

// errno tells the number of an error, 0: there is none; it has no other number within it, and tells its layer.
func errno(t *testing.T, what string, e error) api.Errno {
	t.Helper()
	if e == nil {
		return 0
	}
	var n api.Errno
	if !errors.As(e, &n) {
		t.Errorf("%s: error %v without a number", what, e)
	}
	for other := api.ErrForm; other <= api.ErrFull; other++ {
		if other != n && errors.Is(e, other) {
			t.Errorf("%s: error %v has %v within it, too", what, e, other)
		}
	}
	var f *api.Fault
	if !errors.As(e, &f) || f.Layer != "rpc" {
		t.Errorf("%s: error %v does not tell its layer", what, e)
	}
	return n
}

func want(t *testing.T, what string, e error, n api.Errno) {
	t.Helper()
	if got := errno(t, what, e); got != n {
		t.Errorf("%s: error %v, want number %d", what, e, n)
	}
}

// same: a nil list and an empty one are one.
func same(a, b api.Rpc) bool {
	if !slices.Equal(a.Entries, b.Entries) || !slices.Equal(a.Members, b.Members) {
		return false
	}
	heads := [2][8]int{}
	for i, m := range []api.Rpc{a, b} {
		heads[i] = [8]int{m.Kind, m.From, m.To, m.Term, m.Index, m.LogTerm, m.Commit}
		if m.Ok {
			heads[i][7] = 1
		}
	}
	return heads[0] == heads[1] && a.Data == b.Data
}

// show is a message, short.
func show(m api.Rpc) string {
	s := fmt.Sprintf("%d: %d>%d %d %d %d %d %v %v %.9q(%d)", m.Kind, m.From, m.To, m.Term, m.Index, m.LogTerm, m.Commit, m.Ok, m.Members, m.Data, len(m.Data))
	for i, e := range m.Entries {
		if i > 20 {
			return s + " .."
		}
		s += fmt.Sprintf(" %d.%d.%d.%.9q(%d)", e.Index, e.Term, e.Kind, e.Data, len(e.Data))
	}
	return s
}

// taken: m may be, and there and back it is the same.
func taken(t *testing.T, what string, m api.Rpc) []byte {
	t.Helper()
	what += ": " + show(m)
	want(t, what+": Check", Check(m), 0)
	b, e := Encode(m)
	want(t, what+": Encode", e, 0)
	back, e := Decode(b)
	want(t, what+": Decode", e, 0)
	if !same(back, m) {
		t.Errorf("%s: back: %s", what, show(back))
	}
	return b
}

// refused: m may not be.
func refused(t *testing.T, what string, m api.Rpc) {
	t.Helper()
	what += ": " + show(m)
	want(t, what+": Check", Check(m), api.ErrForm)
	b, e := Encode(m)
	want(t, what+": Encode", e, api.ErrForm)
	if len(b) > 0 {
		t.Errorf("%s: %d bytes beside an error", what, len(b))
	}
	// Bytes that would be its own: they are none's, or, where a number has no room in them, another's.
	toldAgain(t, what, write(m))
}

// noMessage: b are none's, and nothing is told.
func noMessage(t *testing.T, what string, b []byte) {
	t.Helper()
	m, e := Decode(b)
	want(t, what, e, api.ErrForm)
	if !same(m, api.Rpc{}) {
		t.Errorf("%s: %s beside an error", what, show(m))
	}
}

// toldAgain: b are none's, or just those of what they tell; it tells which.
func toldAgain(t *testing.T, what string, b []byte) bool {
	t.Helper()
	m, e := Decode(b)
	if e != nil {
		noMessage(t, what, b)
		return false
	}
	again, e := Encode(m)
	want(t, what+": what it tells", e, 0)
	if !bytes.Equal(again, b) {
		t.Errorf("%s: %.60x tells %s, whose bytes are %.60x", what, b, show(m), again)
	}
	return true
}

// terms are entries behind that index, of these terms; each has data of its own.
func terms(index int, all ...int) (l []api.Entry) {
	for i, term := range all {
		l = append(l, api.Entry{Index: index + 1 + i, Term: term, Kind: api.EntryData, Data: fmt.Sprint("d", i)})
	}
	return l
}

// plain is an ordinary message of each kind.
func plain(kind int) api.Rpc {
	m := api.Rpc{Kind: kind, From: 2, To: 5, Term: 9}
	switch kind {
	case api.AskPre, api.AskVote:
		m.Index, m.LogTerm = 12, 8
	case api.TellPre, api.TellVote:
		m.Ok = true
	case api.AskAppend:
		m.Index, m.LogTerm, m.Commit = 12, 8, 11
	case api.TellAppend:
		m.Ok, m.Index = true, 12
	case api.AskSnap:
		m.Index, m.LogTerm, m.Members, m.Data = 12, 8, []int{2, 3, 5}, "state"
	}
	return m
}

// bare is a message of each kind with as little as may be.
func bare(kind int) api.Rpc {
	m := api.Rpc{Kind: kind, From: 1, To: 1}
	if kind == api.AskSnap {
		m.Index, m.Members = 1, []int{1}
	}
	return m
}

// fullest is a message of each kind with as much as may be.
func fullest(kind int) api.Rpc {
	m := api.Rpc{Kind: kind, From: nodes, To: nodes, Term: greatest}
	switch kind {
	case api.AskPre, api.AskVote:
		m.Index, m.LogTerm = greatest, greatest
	case api.TellPre, api.TellVote:
		m.Ok = true
	case api.AskAppend:
		m.Index, m.LogTerm, m.Commit = lastEntry-mostSent, greatest, greatest
		m.Entries = terms(m.Index, slices.Repeat([]int{greatest}, mostSent)...)
		for i := range m.Entries {
			m.Entries[i].Data = strings.Repeat(string(rune('a'+i)), mostData)
		}
	case api.TellAppend:
		m.Ok, m.Index = true, greatest
	case api.AskSnap:
		m.Index, m.LogTerm, m.Members, m.Data = lastSnap, greatest, []int{1, 2, 3, 4, 5, 6, 7}, strings.Repeat("\xff", mostBytes)
	}
	return m
}

// kinds are all of them, by the document's names.
var kinds = []int{api.AskPre, api.TellPre, api.AskVote, api.TellVote, api.AskAppend, api.TellAppend, api.AskSnap}

// some are messages that may be, of each kind.
func some() (l []api.Rpc) {
	for _, kind := range kinds {
		m := plain(kind)
		l = append(l, bare(kind), m)
		if m.Ok {
			m.Ok = false
			l = append(l, m)
		}
	}
	with := plain(api.AskAppend)
	with.Entries = []api.Entry{
		{Index: 13, Term: 8},
		{Index: 14, Term: 8, Kind: api.EntryData, Data: "\x00data\xff"},
		{Index: 15, Term: 10, Kind: api.EntryConf, Data: "\x01\x02\x07"},
	}
	return append(l, with)
}

// field is one that is a number.
type field struct {
	name string
	at   func(m *api.Rpc) *int
}

var fields = []field{
	{"From", func(m *api.Rpc) *int { return &m.From }},
	{"To", func(m *api.Rpc) *int { return &m.To }},
	{"Term", func(m *api.Rpc) *int { return &m.Term }},
	{"Index", func(m *api.Rpc) *int { return &m.Index }},
	{"LogTerm", func(m *api.Rpc) *int { return &m.LogTerm }},
	{"Commit", func(m *api.Rpc) *int { return &m.Commit }},
}

// bounds are a field's, by its kind, as the chapter has them.
func bounds(kind int, name string) (least, most int) {
	has := map[string][]int{
		"Index":   {api.AskPre, api.AskVote, api.AskAppend, api.TellAppend, api.AskSnap},
		"LogTerm": {api.AskPre, api.AskVote, api.AskAppend, api.AskSnap},
		"Commit":  {api.AskAppend},
	}
	switch {
	case name == "From", name == "To":
		return 1, nodes
	case name == "Index" && kind == api.AskSnap:
		return 1, lastSnap
	case name != "Term" && !slices.Contains(has[name], kind):
		return 0, 0
	}
	return 0, greatest
}

// edges: numbers at and beside each bound, and some of which the low bytes would do.
var edges = []int{
	math.MinInt, -1 << 40, -1 << 32, -256, -255, -2, -1, 0, 1, 2, 3, 6, 7, 8, 9, 127, 128, 255, 256, 257, 65535, 65536, 65537, 1 << 31, 1<<32 - 1, 1 << 32, 1<<32 + 1,
	1<<40 - 2049, 1<<40 - 2048, 1<<40 - 2047, 1<<40 - 2, 1<<40 - 1, 1 << 40, 1<<40 + 1, 1<<40 + 5, 1 << 41, 1<<48 + 1, 1<<56 + 7, math.MaxInt - 1, math.MaxInt,
}

// TestNumbers: each number of each kind, at its bounds and beside them, or where the kind has no use for it: P17.1, P17.3.
func TestNumbers(t *testing.T) {
	for _, kind := range kinds {
		for _, f := range fields {
			least, most := bounds(kind, f.name)
			for _, n := range edges {
				for _, m := range []api.Rpc{bare(kind), plain(kind)} {
					*f.at(&m) = n
					if least <= n && n <= most {
						taken(t, f.name, m)
					} else {
						refused(t, f.name, m)
					}
				}
			}
		}
	}
}

// TestKinds: those that there are, and no others: P17.1.
func TestKinds(t *testing.T) {
	for _, kind := range []int{math.MinInt, -1, 0, 8, 9, 16, 127, 128, 255, 256, 257, 256 + 7, 1<<32 + 1, math.MaxInt} {
		refused(t, "Kind", api.Rpc{Kind: kind, From: 1, To: 1})
		for _, m := range some() {
			m.Kind = kind
			refused(t, "Kind", m)
		}
	}
	refused(t, "nothing", api.Rpc{})
	for _, kind := range kinds {
		taken(t, "bare", bare(kind))
		taken(t, "plain", plain(kind))
		taken(t, "fullest", fullest(kind))
	}
}

// TestBeside: what is no number, where the kind has no use for it: P17.1.
func TestBeside(t *testing.T) {
	changes := []struct {
		name string
		has  []int
		do   func(m *api.Rpc)
	}{
		{"Ok", []int{api.TellPre, api.TellVote, api.TellAppend}, func(m *api.Rpc) { m.Ok = true }},
		{"Entries", []int{api.AskAppend}, func(m *api.Rpc) { m.Entries = terms(m.Index, m.LogTerm) }},
		{"Members", []int{api.AskSnap}, func(m *api.Rpc) { m.Members = []int{1} }},
		{"Data", []int{api.AskSnap}, func(m *api.Rpc) { m.Data = "x" }},
		{"Data of a nought", []int{api.AskSnap}, func(m *api.Rpc) { m.Data = "\x00" }},
	}
	for _, kind := range kinds {
		for _, c := range changes {
			for _, m := range []api.Rpc{bare(kind), plain(kind)} {
				c.do(&m)
				if slices.Contains(c.has, kind) {
					taken(t, c.name, m)
				} else {
					refused(t, c.name, m)
				}
			}
		}
		m := plain(kind)
		m.Entries = []api.Entry{}
		if kind != api.AskSnap {
			m.Members = []int{}
		}
		taken(t, "empty lists", m)
	}
}

// TestOtherKinds: a message of each kind as one of each other: P17.1.
func TestOtherKinds(t *testing.T) {
	alike := map[[2]int]bool{}
	for _, l := range [][]int{{api.AskPre, api.AskVote}, {api.TellPre, api.TellVote}} {
		alike[[2]int{l[0], l[1]}], alike[[2]int{l[1], l[0]}] = true, true
	}
	alike[[2]int{api.AskPre, api.AskAppend}], alike[[2]int{api.AskVote, api.AskAppend}] = true, true
	alike[[2]int{api.TellPre, api.TellAppend}], alike[[2]int{api.TellVote, api.TellAppend}] = true, true
	for _, kind := range kinds {
		for _, other := range kinds {
			m := plain(kind)
			m.Kind = other
			if kind == other || alike[[2]int{kind, other}] {
				taken(t, "as another", m)
			} else {
				refused(t, "as another", m)
			}
		}
	}
}

// asking is an AskAppend behind that index and term.
func asking(index, term int, l []api.Entry) api.Rpc {
	return api.Rpc{Kind: api.AskAppend, From: 3, To: 1, Term: 4, Index: index, LogTerm: term, Entries: l}
}

// TestEntries: how entries stand behind one another: P17.1.
func TestEntries(t *testing.T) {
	count := func(n int) []int { return slices.Repeat([]int{3}, n) }
	for _, c := range []struct {
		name  string
		index int
		term  int
		l     []api.Entry
		is    bool
	}{
		{"none", 12, 3, nil, true},
		{"one", 12, 3, terms(12, 3), true},
		{"one of a greater term", 12, 3, terms(12, greatest), true},
		{"behind nothing", 0, 0, terms(0, 0, 0, 1), true},
		{"behind 0 of some term", 0, 5, terms(0, 5, 5, 6), true},
		{"of terms above the message's", 12, 3, terms(12, 7, 8), true},
		{"as many as may be", 12, 3, terms(12, count(mostSent)...), true},
		{"as many behind nothing", 0, 3, terms(0, count(mostSent)...), true},
		{"one more", 12, 3, terms(12, count(mostSent+1)...), false},
		{"one more behind nothing", 0, 0, terms(0, count(mostSent+1)...), false},
		{"256", 12, 3, terms(12, count(256)...), false},
		{"257", 12, 3, terms(12, count(257)...), false},
		{"513 behind nothing", 0, 0, terms(0, count(513)...), false},
		{"one too late", 12, 3, terms(13, 3), false},
		{"the one ahead", 12, 3, terms(11, 3), false},
		{"the one ahead and on", 12, 3, terms(11, 3, 3), false},
		{"of index 0", 12, 3, terms(-1, 3), false},
		{"of index 0 behind nothing", 0, 0, terms(-1, 0), false},
		{"of index 1", 12, 3, terms(0, 3), false},
		{"one is skipped", 12, 3, append(terms(12, 3), terms(14, 3)...), false},
		{"one comes twice", 12, 3, append(terms(12, 3), terms(12, 3)...), false},
		{"one is behind the next", 12, 3, append(terms(13, 3), terms(12, 3)...), false},
		{"below the term", 12, 3, terms(12, 2), false},
		{"below the term behind nothing", 0, 3, terms(0, 2), false},
		{"far below the term", 12, greatest, terms(12, 0), false},
		{"terms fall", 12, 3, terms(12, 3, 5, 4), false},
		{"terms fall at the end", 12, 0, terms(12, append(count(mostSent-1), 2)...), false},
		{"the greatest term", 12, greatest, terms(12, greatest, greatest), true},
		{"a greater one", 12, 3, terms(12, greatest+1), false},
		{"a far greater one", 12, 3, terms(12, math.MaxInt), false},
		{"a term below 0", 12, 0, terms(12, -1), false},
		{"the least term", 0, 0, terms(0, math.MinInt), false},
		{"up to the last index", greatest - 1, 3, terms(greatest-1, 3, 3), true},
		{"the last index", greatest, 3, terms(greatest, 3), true},
		{"behind the last index", greatest, 3, terms(greatest, 3, 3), false},
		{"sixteen to the last index", lastEntry - 16, 3, terms(lastEntry-16, count(16)...), true},
		{"sixteen over the last index", lastEntry - 15, 3, terms(lastEntry-15, count(16)...), false},
		{"behind the last snapshot", lastSnap + 1, 3, terms(lastSnap+1, 3, 4), true},
	} {
		m := asking(c.index, c.term, c.l)
		if c.is {
			taken(t, c.name, m)
		} else {
			refused(t, c.name, m)
		}
	}
}

// TestEntry: one entry, first, last, or amid others: P17.1.
func TestEntry(t *testing.T) {
	long := strings.Repeat("x", mostData)
	for _, c := range []struct {
		name string
		kind int
		data string
		is   bool
	}{
		{"none", api.EntryNone, "", true}, {"none with data", api.EntryNone, "x", true}, {"none with much", api.EntryNone, long, true}, {"none with too much", api.EntryNone, long + "x", false},
		{"data", api.EntryData, "\x02\x01", true}, {"no data", api.EntryData, "", true}, {"a nought", api.EntryData, "\x00", true}, {"no text", api.EntryData, "\xff\xfe\x80", true},
		{"much", api.EntryData, long, true}, {"255", api.EntryData, long[:255], true}, {"256", api.EntryData, long[:256], true}, {"257", api.EntryData, long[:257], true}, {"one less", api.EntryData, long[1:], true},
		{"too much", api.EntryData, long + "x", false}, {"far too much", api.EntryData, strings.Repeat(long, 16), false}, {"too much by so many", api.EntryData, strings.Repeat(long, 16) + "x", false},
		{"one member", api.EntryConf, "\x01", true}, {"the last member", api.EntryConf, "\x07", true}, {"some", api.EntryConf, "\x02\x05\x06", true}, {"all", api.EntryConf, "\x01\x02\x03\x04\x05\x06\x07", true},
		{"no members", api.EntryConf, "", false}, {"member 0", api.EntryConf, "\x00", false}, {"0 and 1", api.EntryConf, "\x00\x01", false}, {"member 8", api.EntryConf, "\x08", false}, {"up to 8", api.EntryConf, "\x01\x08", false}, {"member 255", api.EntryConf, "\xff", false},
		{"falling", api.EntryConf, "\x02\x01", false}, {"twice", api.EntryConf, "\x01\x01", false}, {"eight", api.EntryConf, "\x01\x02\x03\x04\x05\x06\x07\x08", false}, {"a digit", api.EntryConf, "1", false}, {"much of members", api.EntryConf, strings.Repeat("\x01", mostData), false}, {"too much of members", api.EntryConf, strings.Repeat("\x01", mostData+1), false},
		{"kind below", api.EntryNone - 1, "\x01", false}, {"kind above", api.EntryConf + 1, "\x01", false}, {"kind 255", 255, "", false}, {"kind 256", 256, "", false}, {"kind 257", 257, "", false}, {"kind 258", 258, "\x01", false}, {"kind least", math.MinInt, "", false}, {"kind greatest", math.MaxInt, "", false},
	} {
		for _, n := range []int{1, 2, 3, mostSent} {
			for i := range n {
				l := terms(12, slices.Repeat([]int{3}, n)...)
				l[i].Kind, l[i].Data = c.kind, c.data
				if m := asking(12, 3, l); c.is {
					taken(t, c.name, m)
				} else {
					refused(t, c.name, m)
				}
			}
		}
	}
}

// TestMembers: of a snapshot: P17.1.
func TestMembers(t *testing.T) {
	for n := range 1 << nodes {
		m := plain(api.AskSnap)
		m.Members = nil
		for k := range nodes {
			if n>>k&1 == 1 {
				m.Members = append(m.Members, k+1)
			}
		}
		if n > 0 {
			taken(t, "members", m)
		} else {
			refused(t, "no members", m)
		}
	}
	for _, l := range [][]int{
		{}, {0}, {-1}, {8}, {255}, {256}, {257}, {1<<32 + 1}, {math.MinInt}, {math.MaxInt}, {0, 1}, {1, 8}, {1, 257}, {1, 1}, {2, 1}, {1, 3, 2}, {7, 7}, {1, 2, 2}, {1, 2, 3, 4, 5, 6, 7, 8}, {1, 2, 3, 4, 5, 6, 7, 7}, {7, 6, 5, 4, 3, 2, 1},
		slices.Repeat([]int{1}, 256), slices.Repeat([]int{1}, 257), append([]int{1}, make([]int, 256)...),
	} {
		m := plain(api.AskSnap)
		m.Members = l
		refused(t, "members", m)
	}
}

// TestSnapshotBytes: P17.1.
func TestSnapshotBytes(t *testing.T) {
	for _, n := range []int{0, 1, 2, 255, 256, 257, 65535, 65536, 65537, mostBytes - 1, mostBytes} {
		for _, c := range []string{"s", "\x00", "\xff"} {
			m := plain(api.AskSnap)
			m.Data = strings.Repeat(c, n)
			taken(t, "Data", m)
		}
	}
	for _, n := range []int{mostBytes + 1, mostBytes + 256, 2 * mostBytes, 1 << 24, 1<<24 + 5} {
		m := plain(api.AskSnap)
		m.Data = strings.Repeat("s", n)
		refused(t, "Data", m)
	}
}

// mayBe is the chapter's words.
func mayBe(m api.Rpc) bool {
	if m.Kind < 1 || m.Kind > 7 {
		return false
	}
	for _, f := range fields {
		least, most := bounds(m.Kind, f.name)
		if n := *f.at(&m); n < least || n > most {
			return false
		}
	}
	asks, snaps := m.Kind == api.AskAppend, m.Kind == api.AskSnap
	tells := m.Kind == api.TellPre || m.Kind == api.TellVote || m.Kind == api.TellAppend
	if m.Ok && !tells || !asks && len(m.Entries) > 0 || len(m.Entries) > 16 || !snaps && len(m.Data) > 0 || len(m.Data) > mostBytes {
		return false
	}
	if snaps != areMembers(m.Members) || !snaps && len(m.Members) > 0 {
		return false
	}
	index, term := m.Index, m.LogTerm
	for _, e := range m.Entries {
		if e.Index != index+1 || e.Index > lastEntry || e.Term < term || e.Term > greatest || e.Kind < 0 || e.Kind > 2 || len(e.Data) > mostData {
			return false
		}
		var members []int
		for _, c := range []byte(e.Data) {
			members = append(members, int(c))
		}
		if e.Kind == 2 && !areMembers(members) {
			return false
		}
		index, term = e.Index, e.Term
	}
	return true
}

// areMembers: of an empty list not.
func areMembers(m []int) bool {
	for i, k := range m {
		if k < 1 || k > nodes || i > 0 && m[i-1] >= k {
			return false
		}
	}
	return len(m) > 0
}

// pick is a message in which some is as in one that may be, and some is anything.
func pick(r *rand.Rand) api.Rpc {
	l := some()
	m := l[r.Intn(len(l))]
	m.Entries, m.Members = slices.Clone(m.Entries), slices.Clone(m.Members)
	for range r.Intn(4) {
		switch r.Intn(6) {
		case 0, 1:
			*fields[r.Intn(len(fields))].at(&m) = edges[r.Intn(len(edges))]
		case 2:
			m.Kind = r.Intn(10) - 1
		case 3:
			m.Ok = !m.Ok
		case 4:
			m.Data = strings.Repeat(string([]byte{byte(r.Intn(256))}), r.Intn(3))
		case 5:
			m.Members = append(m.Members, r.Intn(9))
		}
	}
	index, term := m.Index, m.LogTerm
	for range r.Intn(3) * r.Intn(8) {
		index, term = index+1, term+r.Intn(2)
		e := api.Entry{Index: index, Term: term, Kind: r.Intn(3), Data: string([]byte{1, byte(2 + r.Intn(6))})}
		if r.Intn(40) == 0 {
			e = api.Entry{Index: e.Index + r.Intn(3) - 1, Term: e.Term + r.Intn(3) - 1, Kind: r.Intn(5) - 1, Data: string([]byte{byte(r.Intn(9)), byte(r.Intn(9))})}
		}
		m.Entries = append(m.Entries, e)
	}
	return m
}

// TestByTheWords: many messages, held against the chapter's words: P17.1, P17.3.
func TestByTheWords(t *testing.T) {
	r := rand.New(rand.NewSource(17))
	seen := map[bool]int{}
	for range 60000 {
		m := pick(r)
		is := mayBe(m)
		seen[is]++
		if is {
			taken(t, "by the words", m)
		} else {
			refused(t, "by the words", m)
		}
		if t.Failed() {
			return
		}
	}
	if seen[true] < 9000 || seen[false] < 9000 {
		t.Errorf("%v", seen)
	}
}

// TestUnlike: unlike messages have unlike bytes, and none's begin with another's: P17.3.
func TestUnlike(t *testing.T) {
	r := rand.New(rand.NewSource(171))
	var told []string
	all := map[string]api.Rpc{}
	for range 5000 {
		m := pick(r)
		if !mayBe(m) {
			continue
		}
		b := string(taken(t, "unlike", m))
		if other, is := all[b]; is && !same(other, m) {
			t.Errorf("%s and %s have the same bytes", show(m), show(other))
		}
		all[b] = m
		told = append(told, b)
	}
	slices.Sort(told)
	told = slices.Compact(told)
	for i := 1; i < len(told); i++ {
		if strings.HasPrefix(told[i], told[i-1]) {
			t.Errorf("%x begins with %x", told[i], told[i-1])
		}
	}
}

// TestCut: each beginning of a message's bytes, and bytes behind them: P17.1.
func TestCut(t *testing.T) {
	l := some()
	for _, kind := range kinds {
		l = append(l, fullest(kind))
	}
	for _, m := range l {
		b, _ := Encode(m)
		for n := range b {
			if x, e := Decode(b[:n]); e == nil || x.Kind != 0 || n < 100 {
				noMessage(t, fmt.Sprint(show(m), " to ", n), b[:n:n])
			}
		}
		for _, behind := range []string{"\x00", "\x01", "\xff", "\x00\x00", strings.Repeat("\x00", 300), string(b)} {
			noMessage(t, fmt.Sprintf("%s with %.5x behind", show(m), behind), append(bytes.Clone(b), behind...))
		}
		noMessage(t, show(m)+" with a nought ahead", append([]byte{0}, b...))
		if len(b) < 1000 {
			noMessage(t, show(m)+" without its first byte", b[1:])
		}
	}
	noMessage(t, "nothing", nil)
	noMessage(t, "an empty list", []byte{})
}

// TestOtherBytes: each byte as any other one, and some to their greatest at once (lengths, too, that are greater than what there is): P17.1.
func TestOtherBytes(t *testing.T) {
	for _, m := range some() {
		b, _ := Encode(m)
		for at := range b {
			for c := range 256 {
				x := bytes.Clone(b)
				x[at] = byte(c)
				toldAgain(t, fmt.Sprintf("%s with %x at %d", show(m), c, at), x)
			}
			for n := 2; n <= 8 && at+n <= len(b); n++ {
				for _, c := range []byte{0, 0x7f, 0x80, 0xff} {
					x := bytes.Clone(b)
					copy(x[at:at+n], bytes.Repeat([]byte{c}, n))
					toldAgain(t, fmt.Sprintf("%s with %d of %x at %d", show(m), n, c, at), x)
				}
			}
		}
	}
}

// TestAnyBytes: P17.1.
func TestAnyBytes(t *testing.T) {
	r := rand.New(rand.NewSource(172))
	l := some()
	good := 0
	for i := range 200000 {
		b := make([]byte, r.Intn(90))
		for k := range b {
			b[k] = byte(r.Intn(256))
			if i%3 > 0 {
				b[k] = byte(r.Intn(9) * r.Intn(2))
			}
		}
		if i%3 > 1 {
			// In the place of some of a message's.
			a, _ := Encode(l[r.Intn(len(l))])
			at := r.Intn(len(a))
			copy(a[at:], b[:len(b)/8])
			b = a
		}
		if toldAgain(t, "any bytes", b) {
			good++
		}
	}
	if good < 10000 {
		t.Errorf("only %d were a message's", good)
	}
	for _, n := range []int{1, 30, 1000, 1 << 16, 1 << 22} {
		for _, c := range []byte{0, 1, 2, 3, 4, 5, 6, 7, 0x80, 0xff} {
			toldAgain(t, fmt.Sprint(n, " of ", c), bytes.Repeat([]byte{c}, n))
		}
	}
}

// roomy is l with spare room behind it, which a mark fills.
func roomy[T any](l []T, mark T) []T {
	r := append(slices.Clone(l), mark, mark, mark)
	return r[:len(l)]
}

// untouched tells whether l, made by roomy, is as it was, its spare room too.
func untouched[T comparable](l, was []T, mark T) bool {
	return slices.Equal(l[:len(l)+3], append(slices.Clone(was), mark, mark, mark))
}

// TestHandedIn: nothing of it is changed: R2.
func TestHandedIn(t *testing.T) {
	spare := api.Entry{Index: 77, Term: 7, Kind: 7, Data: "spare"}
	l := append(some(), asking(12, 3, terms(12, 2)), asking(12, 3, terms(12, slices.Repeat([]int{4}, 20)...)), api.Rpc{Kind: api.AskSnap, From: 1, To: 2, Index: 1, Members: []int{3, 1}})
	for _, was := range l {
		m := was
		m.Entries, m.Members = roomy(was.Entries, spare), roomy(was.Members, 77)
		Check(m)
		Encode(m)
		if !untouched(m.Entries, was.Entries, spare) || !untouched(m.Members, was.Members, 77) {
			t.Errorf("%s is %s", show(was), show(m))
		}
	}
	for _, was := range [][]byte{nil, []byte("abc"), write(some()[3]), frame([]byte("abc")), append(frame([]byte("abc")), frame(nil)...)} {
		b := roomy(was, 77)
		Decode(b)
		Frame(b)
		Frames(b)
		if !untouched(b, was, 77) {
			t.Errorf("%x is %x", was, b)
		}
	}
}

// TestTold: what is told of messages is new memory: R2.
func TestTold(t *testing.T) {
	m := asking(12, 3, terms(12, 3, 4))
	m.Entries[1] = api.Entry{Index: 14, Term: 4, Kind: api.EntryConf, Data: "\x01\x02"}
	for _, m := range []api.Rpc{m, plain(api.AskSnap)} {
		b, _ := Encode(m)
		c, _ := Encode(m)
		was := bytes.Clone(b)
		first, _ := Decode(b)
		second, _ := Decode(b)
		clear(b)
		clear(b[:cap(b)])
		if !bytes.Equal(c, was) || !same(first, m) || !same(second, m) {
			t.Errorf("%s: with other bytes: %x, %s, %s", show(m), c, show(first), show(second))
		}
		clear(first.Entries[:cap(first.Entries)])
		clear(first.Members[:cap(first.Members)])
		if !same(second, m) {
			t.Errorf("%s: with another one: %s", show(m), show(second))
		}
		third, _ := Decode(c)
		if !same(third, m) {
			t.Errorf("%s: a later one: %s", show(m), show(third))
		}
	}
}

// TestLaterChanges: what is changed later in a message changes no bytes that were told of it: R2.
func TestLaterChanges(t *testing.T) {
	for _, m := range []api.Rpc{asking(12, 3, terms(12, 3, 4)), plain(api.AskSnap)} {
		b, _ := Encode(m)
		was := bytes.Clone(b)
		clear(m.Entries)
		clear(m.Members)
		if !bytes.Equal(b, was) {
			t.Errorf("%x, was %x", b, was)
		}
	}
}
