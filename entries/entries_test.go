package entries

import (
	"errors"
	"fmt"
	"math"
	"math/rand"
	"slices"
	"strings"
	"testing"

	"dovecote/api"
)

// Bounds as the chapters have them.
const (
	greatestIndex = 1 << 40
	greatestTerm  = 1<<40 - 1
	greatestBase  = 1<<40 - 2048
)

// number tells the number of an error, 0: there is none; it has no other number within it, and tells its layer.
func number(t *testing.T, what string, e error) api.Errno {
	t.Helper()
	if e == nil {
		return 0
	}
	var n api.Errno
	if !errors.As(e, &n) {
		t.Errorf("%s: error %v without a number", what, e)
	}
	for other := api.ErrForm; other <= api.ErrFull; other++ {
		if other != n && errors.Is(e, other) {
			t.Errorf("%s: error %v has %v within it, too", what, e, other)
		}
	}
	var f *api.Fault
	if !errors.As(e, &f) || f.Layer != "entries" {
		t.Errorf("%s: error %v does not tell its layer", what, e)
	}
	return n
}

func want(t *testing.T, what string, e error, n api.Errno) {
	t.Helper()
	if got := number(t, what, e); got != n {
		t.Errorf("%s: error %v, want number %d", what, e, n)
	}
}

// list are entries from that index on, of these terms; each has data of its own.
func list(from int, terms ...int) (l []api.Entry) {
	for i, term := range terms {
		l = append(l, api.Entry{Index: from + i, Term: term, Kind: api.EntryData, Data: fmt.Sprint(from + i)})
	}
	return l
}

// alike are n terms of one kind.
func alike(term, n int) []int {
	return slices.Repeat([]int{term}, n)
}

func logOf(base, term int, terms ...int) api.Log {
	return api.Log{Base: base, BaseTerm: term, Entries: list(base+1, terms...)}
}

// show tells all of a list of some entries, and the ends of a longer one.
func show(l []api.Entry) string {
	if len(l) > 12 {
		return fmt.Sprint(show(l[:3]), " .. ", show(l[len(l)-3:]), " (", len(l), ")")
	}
	var s strings.Builder
	for _, e := range l {
		fmt.Fprintf(&s, " %d.%d", e.Index, e.Term)
		if e.Kind != api.EntryData || e.Data != fmt.Sprint(e.Index) {
			fmt.Fprintf(&s, ".%d.%d.%.5q", e.Kind, len(e.Data), e.Data)
		}
	}
	return s.String()
}

func showLog(l api.Log) string {
	return fmt.Sprint(l.Base, "/", l.BaseTerm, show(l.Entries))
}

// same: a nil list and an empty one are one.
func same(a, b api.Log) bool {
	return a.Base == b.Base && a.BaseTerm == b.BaseTerm && slices.Equal(a.Entries, b.Entries)
}

// tells: a log beside no error, or none beside that one.
func tells(t *testing.T, what string, got api.Log, e error, log api.Log, n api.Errno) {
	t.Helper()
	want(t, what, e, n)
	if !same(got, log) {
		t.Errorf("%s: %s, want %s", what, showLog(got), showLog(log))
	}
	if e == nil {
		want(t, what+": what it tells", Check(got), 0)
	}
}

// TestExample: the chapter's: P15.3.
func TestExample(t *testing.T) {
	l := logOf(0, 0, 1, 1, 2)
	m, miss, e := Merge(l, 1, 1, list(2, 3))
	tells(t, "Merge", m, e, logOf(0, 0, 1, 3), 0)
	if miss {
		t.Error("Merge: a miss")
	}
}

// with is a log with that entry instead of its second one.
func with(e api.Entry) api.Log {
	l := logOf(4, 2, 2, 3, 3)
	l.Entries[1] = e
	return l
}

// wrongLogs: each way in which a log may not be.
func wrongLogs() map[string]api.Log {
	good := api.Entry{Index: 6, Term: 3, Kind: api.EntryData}
	change := func(f func(e *api.Entry)) api.Log {
		e := good
		f(&e)
		return with(e)
	}
	return map[string]api.Log{
		"Base below 0":           logOf(-1, 0),
		"Base least":             {Base: math.MinInt},
		"Base below 0, entries":  logOf(-1, 0, 0),
		"Base too great":         logOf(greatestBase+1, 0),
		"Base greatest":          {Base: math.MaxInt},
		"BaseTerm below 0":       logOf(0, -1),
		"BaseTerm least":         logOf(0, math.MinInt, 1),
		"BaseTerm too great":     logOf(0, greatestTerm+1),
		"BaseTerm greatest":      logOf(7, math.MaxInt),
		"too many":               logOf(0, 0, alike(0, api.MaxEntries+1)...),
		"far too many":           logOf(5, 1, alike(1, 3*api.MaxEntries)...),
		"first Index skipped":    {Base: 4, Entries: list(6, 2)},
		"first Index is Base":    {Base: 4, Entries: list(4, 2)},
		"first Index 0":          {Entries: list(0, 2)},
		"first Index below 0":    {Entries: list(-3, 2)},
		"Index skipped":          change(func(e *api.Entry) { e.Index = 7 }),
		"Index again":            change(func(e *api.Entry) { e.Index = 5 }),
		"Index 0":                change(func(e *api.Entry) { e.Index = 0 }),
		"Index least":            change(func(e *api.Entry) { e.Index = math.MinInt }),
		"Index greatest":         change(func(e *api.Entry) { e.Index = math.MaxInt }),
		"Index too great":        change(func(e *api.Entry) { e.Index = greatestIndex + 1 }),
		"Term below the last":    change(func(e *api.Entry) { e.Term = 1 }),
		"Term above the next":    change(func(e *api.Entry) { e.Term = 4 }),
		"Term below 0":           change(func(e *api.Entry) { e.Term = -1 }),
		"first Term below Base":  logOf(4, 3, 2, 3),
		"first Term 0":           logOf(4, 1, 0),
		"first Term below 0":     logOf(0, 0, -1),
		"last Term falls":        logOf(4, 0, 2, 2, 1),
		"Term too great":         logOf(4, 0, 2, greatestTerm+1),
		"Term greatest":          logOf(4, 0, math.MaxInt),
		"Kind below":             change(func(e *api.Entry) { e.Kind = api.EntryNone - 1 }),
		"Kind above":             change(func(e *api.Entry) { e.Kind = api.EntryConf + 1 }),
		"Kind least":             change(func(e *api.Entry) { e.Kind = math.MinInt }),
		"Kind greatest":          change(func(e *api.Entry) { e.Kind = math.MaxInt }),
		"Data too long":          change(func(e *api.Entry) { e.Data = strings.Repeat("x", api.MaxEntry+1) }),
		"Data far too long":      change(func(e *api.Entry) { e.Data = strings.Repeat("x", 1<<20) }),
		"empty entry":            change(func(e *api.Entry) { *e = api.Entry{} }),
		"last one is wrong":      {Entries: append(list(1, 1, 2, 3), api.Entry{Index: 4, Term: 3, Kind: 3})},
		"all wrong":              {Base: -1, BaseTerm: -1, Entries: []api.Entry{{Index: -1, Term: -1, Kind: -1}}},
		"Base great with a list": {Base: greatestBase + 1, Entries: list(greatestBase+2, 0)},
	}
}

// TestWrongLogs: P15.1 to P15.4: ErrForm ahead of every other error, and nothing beside it.
func TestWrongLogs(t *testing.T) {
	for name, l := range wrongLogs() {
		was := api.Log{Base: l.Base, BaseTerm: l.BaseTerm, Entries: slices.Clone(l.Entries)}
		none := func(what string, m api.Log, e error) {
			t.Helper()
			tells(t, name+": "+what, m, e, api.Log{}, api.ErrForm)
		}
		none("Check", api.Log{}, Check(l))
		index, term, e := Last(l)
		none("Last", api.Log{Base: index, BaseTerm: term}, e)
		for _, i := range []int{math.MinInt, -1, 0, 1, l.Base - 1, l.Base, l.Base + 1, l.Base + len(l.Entries), 1 << 41, math.MaxInt} {
			term, e := Term(l, i)
			none("Term", api.Log{BaseTerm: term}, e)
			m, e := Cut(l, i)
			none("Cut", m, e)
			m, e = Compact(l, i)
			none("Compact", m, e)
			for _, n := range []int{math.MinInt, -1, 0, 1, math.MaxInt} {
				es, e := Slice(l, i, n)
				none("Slice", api.Log{Entries: es}, e)
			}
			for _, term := range []int{-1, 0, 2, math.MaxInt} {
				is, e := Newer(l, i, term)
				none("Newer", api.Log{}, e)
				m, miss, e := Merge(l, i, term, nil)
				none("Merge", m, e)
				if is || miss {
					t.Errorf("%s: Newer %v, Merge %v", name, is, miss)
				}
			}
		}
		last := l.Base + len(l.Entries)
		for _, es := range [][]api.Entry{nil, list(last+1, 5), list(last+2, 5), list(last+1, alike(5, api.MaxEntries+1)...), {{}}} {
			m, e := Append(l, es)
			none("Append", m, e)
			m, miss, e := Merge(l, last, 3, es)
			none("Merge with entries", m, e)
			if miss {
				t.Errorf("%s: Merge with entries: a miss", name)
			}
		}
		if !same(l, was) {
			t.Errorf("%s is changed: %s", name, showLog(l))
		}
	}
}

// goodLogs are logs at the edges.
func goodLogs() []api.Log {
	full := logOf(greatestBase, greatestTerm, alike(greatestTerm, api.MaxEntries)...)
	return []api.Log{
		{},
		{Entries: []api.Entry{}},
		{Entries: []api.Entry{{Index: 1}}},
		{Entries: []api.Entry{{Index: 1}, {Index: 2, Kind: api.EntryConf, Data: "\xff\x00"}, {Index: 3, Kind: api.EntryData, Data: strings.Repeat("x", api.MaxEntry)}}},
		logOf(0, 5),
		logOf(0, 5, 5),
		logOf(3, 1, 1, 2, 2),
		logOf(3, 0, greatestTerm),
		logOf(3, greatestTerm, greatestTerm),
		logOf(greatestBase, greatestTerm),
		logOf(greatestBase, 0, 0, 1, greatestTerm),
		logOf(0, 0, alike(0, api.MaxEntries-1)...),
		logOf(0, 0, alike(0, api.MaxEntries)...),
		full,
	}
}

// TestCheck: P15.1.
func TestCheck(t *testing.T) {
	for _, l := range goodLogs() {
		want(t, showLog(l), Check(l), 0)
	}
	// The greatest Index of all is an entry's, though no log begins so late that it holds it.
	if isEntry(api.Entry{Index: greatestIndex + 1}) || !isEntry(api.Entry{Index: greatestIndex}) || isEntry(api.Entry{}) || !isEntry(api.Entry{Index: 1}) {
		t.Error("an entry's Index")
	}
}

// TestLast: P15.1.
func TestLast(t *testing.T) {
	for _, l := range goodLogs() {
		index, term, e := Last(l)
		want(t, showLog(l), e, 0)
		wantIndex, wantTerm := l.Base, l.BaseTerm
		for _, e := range l.Entries {
			wantIndex, wantTerm = e.Index, e.Term
		}
		if index != wantIndex || term != wantTerm {
			t.Errorf("%s: Last tells %d, %d", showLog(l), index, term)
		}
	}
	for i, c := range []struct {
		l           api.Log
		index, term int
	}{{api.Log{}, 0, 0}, {logOf(3, 1), 3, 1}, {logOf(3, 1, 1), 4, 1}, {logOf(3, 1, 1, 2, 7), 6, 7}, {logOf(0, 0, 9), 1, 9}} {
		if index, term, e := Last(c.l); index != c.index || term != c.term || e != nil {
			t.Errorf("%d: %d, %d, %v", i, index, term, e)
		}
	}
}

// TestTerm: P15.1: at the base, at each entry, and beyond both ends.
func TestTerm(t *testing.T) {
	for _, l := range goodLogs() {
		last := l.Base + len(l.Entries)
		for _, i := range []int{math.MinInt, -1, l.Base - 2, l.Base - 1, last + 1, last + 2, l.Base + api.MaxEntries + 1, math.MaxInt} {
			term, e := Term(l, i)
			want(t, fmt.Sprintf("%s: Term(%d)", showLog(l), i), e, api.ErrNone)
			if term != 0 {
				t.Errorf("%s: Term(%d): %d beside an error", showLog(l), i, term)
			}
		}
		term, e := Term(l, l.Base)
		want(t, "at the base", e, 0)
		if term != l.BaseTerm {
			t.Errorf("%s: Term(%d): %d", showLog(l), l.Base, term)
		}
		for _, x := range l.Entries {
			term, e := Term(l, x.Index)
			want(t, "at an entry", e, 0)
			if term != x.Term {
				t.Errorf("%s: Term(%d): %d", showLog(l), x.Index, term)
			}
		}
	}
}

// TestAppend: P15.2: entries that go on.
func TestAppend(t *testing.T) {
	for _, l := range goodLogs() {
		m, e := Append(l, nil)
		tells(t, showLog(l)+": nothing", m, e, l, 0)
		m, e = Append(l, []api.Entry{})
		tells(t, showLog(l)+": an empty list", m, e, l, 0)
	}
	long := strings.Repeat("y", api.MaxEntry)
	for i, c := range []struct {
		l  api.Log
		es []api.Entry
	}{
		{api.Log{}, list(1, 0)},
		{api.Log{}, []api.Entry{{Index: 1}}},
		{api.Log{}, list(1, greatestTerm)},
		{logOf(3, 1), list(4, 1)},
		{logOf(3, 1), list(4, 5, 5, 6)},
		{logOf(3, 1, 1, 2, 2), list(7, 2, 3)},
		{logOf(3, 1, 1, 2, 2), list(7, 99)},
		{logOf(3, 1, 1, 2, 2), []api.Entry{{Index: 7, Term: 2, Kind: api.EntryConf, Data: "\x01"}, {Index: 8, Term: 2, Data: long}}},
		{logOf(greatestBase, greatestTerm), list(greatestBase+1, alike(greatestTerm, api.MaxEntries)...)},
		{logOf(0, 0, alike(1, api.MaxEntries-1)...), list(api.MaxEntries, 1)},
		{logOf(9, 0, alike(1, api.MaxEntries-2)...), list(9+api.MaxEntries-1, 1, 2)},
		{logOf(0, 0), list(1, alike(1, api.MaxEntries)...)},
	} {
		m, e := Append(c.l, c.es)
		both := api.Log{Base: c.l.Base, BaseTerm: c.l.BaseTerm, Entries: append(slices.Clone(c.l.Entries), c.es...)}
		tells(t, fmt.Sprint("Append ", i), m, e, both, 0)
	}
}

// wrongEntries: lists that do not go on from index and term: each but the first ones has one that may be ahead of the one that is wrong.
func wrongEntries(index, term int) map[string][]api.Entry {
	next := api.Entry{Index: index + 1, Term: term, Kind: api.EntryData, Data: "x"}
	second := func(f func(e *api.Entry)) []api.Entry {
		e := next
		e.Index++
		f(&e)
		return []api.Entry{next, e}
	}
	far := list(index+1, alike(term, api.MaxEntries+7)...)
	far[len(far)-1].Kind = 3
	l := map[string][]api.Entry{
		"first Index again":     list(index, term),
		"first Index skipped":   list(index+2, term),
		"first Index 0":         list(0, term),
		"first Index greatest":  {{Index: math.MaxInt, Term: term}},
		"first Index least":     {{Index: math.MinInt, Term: term}},
		"first Term falls":      list(index+1, term-1),
		"first Term far below":  list(index+1, math.MinInt),
		"first Term too great":  list(index+1, greatestTerm+1),
		"first Kind":            {{Index: index + 1, Term: term, Kind: 3}},
		"first one is empty":    {{}},
		"Index skipped":         second(func(e *api.Entry) { e.Index++ }),
		"Index again":           second(func(e *api.Entry) { e.Index-- }),
		"Term falls":            second(func(e *api.Entry) { e.Term-- }),
		"Term falls again":      append(list(index+1, term, term+2), list(index+3, term+1)...),
		"Term too great":        second(func(e *api.Entry) { e.Term = greatestTerm + 1 }),
		"Term greatest":         second(func(e *api.Entry) { e.Term = math.MaxInt }),
		"Kind below":            second(func(e *api.Entry) { e.Kind = -1 }),
		"Kind above":            second(func(e *api.Entry) { e.Kind = api.EntryConf + 1 }),
		"Kind greatest":         second(func(e *api.Entry) { e.Kind = math.MaxInt }),
		"Data too long":         second(func(e *api.Entry) { e.Data = strings.Repeat("x", api.MaxEntry+1) }),
		"too many, a gap":       list(index+2, alike(term, api.MaxEntries+1)...),
		"too many, Terms fall":  append(list(index+1, alike(term+1, api.MaxEntries)...), list(index+api.MaxEntries+1, term)...),
		"too many, a wrong one": far,
	}
	return l
}

// TestAppendForm: P15.2: entries that may not be, or do not go on, also where they are too many.
func TestAppendForm(t *testing.T) {
	for _, l := range []api.Log{{}, logOf(0, 4), logOf(3, 1), logOf(3, 1, 1, 2, 2), logOf(greatestBase, 7, 8), logOf(0, 0, alike(3, api.MaxEntries)...)} {
		index, term, _ := Last(l)
		for name, es := range wrongEntries(index, term) {
			m, e := Append(l, es)
			tells(t, fmt.Sprintf("%s: %s", showLog(l), name), m, e, api.Log{}, api.ErrForm)
		}
	}
	// An Index above all that may be counts ahead of too many.
	l := logOf(greatestBase, 0)
	m, e := Append(l, list(greatestBase+1, alike(0, 2048)...))
	tells(t, "up to the greatest Index", m, e, api.Log{}, api.ErrFull)
	m, e = Append(l, list(greatestBase+1, alike(0, 2049)...))
	tells(t, "beyond the greatest Index", m, e, api.Log{}, api.ErrForm)
}

// TestAppendFull: P15.2: one more than there may be, and many more.
func TestAppendFull(t *testing.T) {
	for _, have := range []int{0, 1, 100, api.MaxEntries - 1, api.MaxEntries} {
		for _, base := range []int{0, 1, 77, greatestBase} {
			l := logOf(base, 1, alike(2, have)...)
			for _, more := range []int{1, 2, api.MaxEntries, 1000} {
				es := list(base+have+1, alike(2, more)...)
				m, e := Append(l, es)
				what := fmt.Sprintf("%d and %d behind %d", have, more, base)
				if have+more > api.MaxEntries {
					tells(t, what, m, e, api.Log{}, api.ErrFull)
				} else {
					tells(t, what, m, e, logOf(base, 1, alike(2, have+more)...), 0)
				}
			}
		}
	}
}

// TestCut: P15.2: at each index, and beyond both ends.
func TestCut(t *testing.T) {
	for _, l := range goodLogs() {
		last := l.Base + len(l.Entries)
		for i := l.Base; i <= last; i++ {
			m, e := Cut(l, i)
			left := api.Log{Base: l.Base, BaseTerm: l.BaseTerm, Entries: l.Entries[:i-l.Base]}
			tells(t, fmt.Sprintf("%s: Cut(%d)", showLog(l), i), m, e, left, 0)
		}
		for _, i := range []int{math.MinInt, -1, l.Base - 2, l.Base - 1, last + 1, last + 2, l.Base + api.MaxEntries + 1, math.MaxInt} {
			m, e := Cut(l, i)
			tells(t, fmt.Sprintf("%s: Cut(%d)", showLog(l), i), m, e, api.Log{}, api.ErrForm)
		}
	}
}

// TestSlice: P15.2: from each index, and from beyond both ends; with n of each kind.
func TestSlice(t *testing.T) {
	for _, l := range goodLogs() {
		last := l.Base + len(l.Entries)
		for i := l.Base + 1; i <= last+1; i++ {
			rest := l.Entries[i-l.Base-1:]
			for _, n := range []int{0, 1, 2, len(rest) - 1, len(rest), len(rest) + 1, len(rest) + 99, math.MaxInt} {
				if n < 0 {
					continue
				}
				es, e := Slice(l, i, n)
				want(t, "Slice", e, 0)
				if wanted := rest[:min(n, len(rest))]; !slices.Equal(es, wanted) {
					t.Errorf("%s: Slice(%d, %d): %s", showLog(l), i, n, show(es))
				}
			}
			for _, n := range []int{-1, -2, math.MinInt} {
				es, e := Slice(l, i, n)
				want(t, fmt.Sprintf("%s: Slice(%d, %d)", showLog(l), i, n), e, api.ErrForm)
				if len(es) > 0 {
					t.Errorf("entries beside an error: %s", show(es))
				}
			}
		}
		// ErrNone counts ahead of an n below 0.
		for _, i := range []int{math.MinInt, -1, l.Base - 1, l.Base, last + 2, last + 3, math.MaxInt} {
			for _, n := range []int{0, 1, math.MaxInt, -1, math.MinInt} {
				es, e := Slice(l, i, n)
				want(t, fmt.Sprintf("%s: Slice(%d, %d)", showLog(l), i, n), e, api.ErrNone)
				if len(es) > 0 {
					t.Errorf("entries beside an error: %s", show(es))
				}
			}
		}
	}
}

// merges: Merge tells that log, or that error; merged twice it is the same, and what is handed in stays.
func merges(t *testing.T, what string, l api.Log, prev, term int, es []api.Entry, log api.Log, miss bool, n api.Errno) {
	t.Helper()
	was, wereEs := own(l), slices.Clone(es)
	m, got, e := Merge(l, prev, term, es)
	if what == "" {
		what = fmt.Sprintf("%s: Merge(%d, %d,%s)", showLog(l), prev, term, show(es))
	}
	tells(t, what, m, e, log, n)
	if got != miss {
		t.Errorf("%s: miss %v", what, got)
	}
	if !same(l, was) || !slices.Equal(es, wereEs) {
		t.Errorf("%s: what was handed in is changed", what)
	}
	if e != nil {
		return
	}
	again, got, e := Merge(m, prev, term, es)
	tells(t, what+" again", again, e, log, 0)
	if got != miss {
		t.Errorf("%s again: miss %v", what, got)
	}
}

// TestMerge: P15.3, P15.5: each case that the chapter names.
func TestMerge(t *testing.T) {
	l := logOf(3, 1, 1, 2, 2)
	for _, c := range []struct {
		l          api.Log
		prev, term int
		es         []api.Entry
		want       api.Log
		miss       bool
		e          api.Errno
	}{
		// Behind the last one.
		{l, 6, 2, list(7, 2, 3), logOf(3, 1, 1, 2, 2, 2, 3), false, 0},
		{l, 6, 2, nil, l, false, 0},
		{api.Log{}, 0, 0, list(1, 0), logOf(0, 0, 0), false, 0},
		{api.Log{}, 0, 0, list(1, 4, 5), logOf(0, 0, 4, 5), false, 0},
		{api.Log{}, 0, 0, nil, api.Log{}, false, 0},
		{logOf(3, 1), 3, 1, list(4, 1), logOf(3, 1, 1), false, 0},
		// It misses: prev is above the end.
		{l, 7, 2, nil, l, true, 0},
		{l, 7, 2, list(8, 2), l, true, 0},
		{l, 7, 0, nil, l, true, 0},
		{l, 1 << 40, 0, nil, l, true, 0},
		{l, 1 << 40, greatestTerm, nil, l, true, 0},
		{api.Log{}, 1, 0, nil, api.Log{}, true, 0},
		{logOf(3, 1), 4, 1, nil, logOf(3, 1), true, 0},
		{logOf(0, 0, 0, 0), 3, 0, list(4, 0), logOf(0, 0, 0, 0), true, 0},
		// It misses: another Term there.
		{l, 6, 1, nil, l, true, 0},
		{l, 6, 3, list(7, 3), l, true, 0},
		{l, 4, 2, list(5, 2), l, true, 0},
		{l, 4, 0, list(5, 2, 2), l, true, 0},
		{l, 3, 0, nil, l, true, 0},
		{l, 3, 2, list(4, 2), l, true, 0},
		{l, 5, greatestTerm, nil, l, true, 0},
		{api.Log{}, 0, 1, list(1, 1), api.Log{}, true, 0},
		{logOf(0, 5), 0, 0, nil, logOf(0, 5), true, 0},
		// All is there already: of what is behind it nothing is cut.
		{l, 3, 1, nil, l, false, 0},
		{l, 3, 1, list(4, 1), l, false, 0},
		{l, 3, 1, list(4, 1, 2), l, false, 0},
		{l, 3, 1, list(4, 1, 2, 2), l, false, 0},
		{l, 4, 1, list(5, 2), l, false, 0},
		{l, 5, 2, list(6, 2), l, false, 0},
		{l, 5, 2, nil, l, false, 0},
		// Some are there, others go on.
		{l, 3, 1, list(4, 1, 2, 2, 2), logOf(3, 1, 1, 2, 2, 2), false, 0},
		{l, 5, 2, list(6, 2, 9, 9), logOf(3, 1, 1, 2, 2, 9, 9), false, 0},
		// One parts from the log: it and all behind it are cut.
		{l, 4, 1, list(5, 1), logOf(3, 1, 1, 1), false, 0},
		{l, 4, 1, list(5, 3), logOf(3, 1, 1, 3), false, 0},
		{l, 4, 1, list(5, 2, 4, 4), logOf(3, 1, 1, 2, 4, 4), false, 0},
		{l, 3, 1, list(4, 2), logOf(3, 1, 2), false, 0},
		{l, 3, 1, list(4, 2, 2, 2), logOf(3, 1, 2, 2, 2), false, 0},
		{l, 3, 1, list(4, 1, 1), logOf(3, 1, 1, 1), false, 0},
		{l, 3, 1, list(4, 1, 1, 2), logOf(3, 1, 1, 1, 2), false, 0},
		{l, 3, 1, list(4, 1, 2, 3), logOf(3, 1, 1, 2, 3), false, 0},
		{logOf(1, 1, 1, 1, 2), 1, 1, list(2, 1, 3), logOf(1, 1, 1, 3), false, 0},
		// prev is below Base: it counts as Base, whatever its term.
		{l, 0, 0, nil, l, false, 0},
		{l, 0, 9, nil, l, false, 0},
		{l, 2, greatestTerm, nil, l, false, 0},
		{l, 2, 7, list(3, 7), l, false, 0},
		{l, 0, 0, list(1, 0), l, false, 0},
		{l, 0, 0, list(1, 5, 5, 5), l, false, 0},
		{l, 0, 0, list(1, 0, 0, 0, 1), l, false, 0},
		{l, 1, 0, list(2, 0, 1, 1, 2, 2), l, false, 0},
		{l, 1, 0, list(2, 0, 1, 1, 2, 2, 5), logOf(3, 1, 1, 2, 2, 5), false, 0},
		{l, 2, 1, list(3, 1, 1, 3), logOf(3, 1, 1, 3), false, 0},
		{l, 0, 0, list(1, 0, 0, 9, 9), logOf(3, 1, 9), false, 0},
		{logOf(3, 1), 0, 0, list(1, 0, 0, 0, 1), logOf(3, 1, 1), false, 0},
		{logOf(3, 0), 0, 0, list(1, 0, 0, 0, 0), logOf(3, 0, 0), false, 0},
		// It would be no log: entries of a lesser Term than the base's.
		{logOf(5, 7), 3, 1, list(4, 1, 1, 1), api.Log{}, false, api.ErrForm},
		{logOf(5, 7), 3, 1, list(4, 1, 1, 6), api.Log{}, false, api.ErrForm},
		{logOf(5, 7), 3, 1, list(4, 1, 1, 7), logOf(5, 7, 7), false, 0},
		{logOf(5, 7), 3, 1, list(4, 1, 1), logOf(5, 7), false, 0},
		{logOf(5, 7, 7, 8), 3, 1, list(4, 1, 1, 6), api.Log{}, false, api.ErrForm},
		{logOf(5, 7, 7, 8), 3, 1, list(4, 1, 1, 6, 8), api.Log{}, false, api.ErrForm},
		{logOf(5, 7, 7, 8), 3, 1, list(4, 1, 1, 7, 7), logOf(5, 7, 7, 7), false, 0},
		// At the bounds of prev and term, and beyond.
		{l, -1, 1, nil, api.Log{}, false, api.ErrForm},
		{l, -1, 1, list(0, 1), api.Log{}, false, api.ErrForm},
		{l, math.MinInt, 1, nil, api.Log{}, false, api.ErrForm},
		{l, 1<<40 + 1, 1, nil, api.Log{}, false, api.ErrForm},
		{l, math.MaxInt, 1, nil, api.Log{}, false, api.ErrForm},
		{l, 1 << 40, 1, list(1<<40+1, 1), api.Log{}, false, api.ErrForm},
		{l, 1<<40 - 1, 1, list(1<<40, 1), l, true, 0},
		{l, 1<<40 - 1, 1, list(1<<40, 1, 1), api.Log{}, false, api.ErrForm},
		{l, 4, -1, nil, api.Log{}, false, api.ErrForm},
		{l, 0, -1, nil, api.Log{}, false, api.ErrForm},
		{l, 9, -1, nil, api.Log{}, false, api.ErrForm},
		{l, 4, math.MinInt, nil, api.Log{}, false, api.ErrForm},
		{l, 4, 1 << 40, nil, api.Log{}, false, api.ErrForm},
		{l, 0, 1 << 40, nil, api.Log{}, false, api.ErrForm},
		{l, 4, math.MaxInt, list(5, 2), api.Log{}, false, api.ErrForm},
		{logOf(0, 0, greatestTerm), 1, greatestTerm, list(2, greatestTerm), logOf(0, 0, greatestTerm, greatestTerm), false, 0},
		{logOf(greatestBase, greatestTerm), greatestBase, greatestTerm, list(greatestBase+1, greatestTerm), logOf(greatestBase, greatestTerm, greatestTerm), false, 0},
		{logOf(greatestBase, 3), 0, 0, nil, logOf(greatestBase, 3), false, 0},
	} {
		merges(t, "", c.l, c.prev, c.term, c.es, c.want, c.miss, c.e)
	}
}

// TestMergeForm: P15.3: entries that may not be, wherever prev is: where it misses, too, and where all of them are left out.
func TestMergeForm(t *testing.T) {
	for _, l := range []api.Log{{}, logOf(3, 2, 2, 3, 3), logOf(3, 2), logOf(2000, 2, 2), logOf(0, 0, alike(2, api.MaxEntries)...)} {
		for _, prev := range []int{0, 2, 3, 5, 6, 7, 99, api.MaxEntries} {
			for _, term := range []int{0, 2, 3, 9} {
				for name, es := range wrongEntries(prev, term) {
					what := fmt.Sprintf("%s: Merge(%d, %d), %s", showLog(l), prev, term, name)
					merges(t, what, l, prev, term, es, api.Log{}, false, api.ErrForm)
				}
			}
		}
	}
}

// TestMergeFull: P15.3: too many, which counts ahead of entries that would make no log.
func TestMergeFull(t *testing.T) {
	most := api.MaxEntries
	full := logOf(0, 0, alike(2, most)...)
	for i, c := range []struct {
		l          api.Log
		prev, term int
		es         []api.Entry
		want       api.Log
		e          api.Errno
	}{
		{full, most, 2, list(most+1, 2), api.Log{}, api.ErrFull},
		{full, most, 2, list(most+1, 3), api.Log{}, api.ErrFull},
		{full, most, 2, nil, full, 0},
		{full, most - 1, 2, list(most, 2, 2), api.Log{}, api.ErrFull},
		{full, most - 1, 2, list(most, 3, 3), api.Log{}, api.ErrFull},
		{full, most - 1, 2, list(most, 3), logOf(0, 0, append(alike(2, most-1), 3)...), 0},
		{full, 0, 0, list(1, alike(2, most+1)...), api.Log{}, api.ErrFull},
		{full, 0, 0, list(1, alike(3, most+1)...), api.Log{}, api.ErrFull},
		{full, 0, 0, list(1, alike(3, most)...), logOf(0, 0, alike(3, most)...), 0},
		{full, 0, 0, list(1, alike(2, most)...), full, 0},
		{full, 9, 2, list(10, 7), logOf(0, 0, append(alike(2, 9), 7)...), 0},
		{api.Log{}, 0, 0, list(1, alike(0, most)...), logOf(0, 0, alike(0, most)...), 0},
		{api.Log{}, 0, 0, list(1, alike(0, most+1)...), api.Log{}, api.ErrFull},
		{api.Log{}, 0, 0, list(1, alike(0, 9*most)...), api.Log{}, api.ErrFull},
		// Those that are left out do not count.
		{logOf(9, 2), 0, 0, list(1, alike(2, 9+most)...), logOf(9, 2, alike(2, most)...), 0},
		{logOf(9, 2), 0, 0, list(1, alike(2, 10+most)...), api.Log{}, api.ErrFull},
		{logOf(9, 2), 8, 2, list(9, alike(2, 1+most)...), logOf(9, 2, alike(2, most)...), 0},
		{logOf(9, 2), 8, 2, list(9, alike(2, 2+most)...), api.Log{}, api.ErrFull},
		{logOf(9000, 2), 0, 0, list(1, alike(1, 9000)...), logOf(9000, 2), 0},
		// Both would be.
		{logOf(9, 2), 8, 1, list(9, alike(1, 1+most)...), api.Log{}, api.ErrForm},
		{logOf(9, 2), 8, 1, list(9, alike(1, 2+most)...), api.Log{}, api.ErrFull},
		{logOf(9, 2, 2), 8, 1, list(9, alike(1, 2+most)...), api.Log{}, api.ErrFull},
	} {
		merges(t, fmt.Sprint("Merge ", i), c.l, c.prev, c.term, c.es, c.want, false, c.e)
	}
}

// TestMergeKeeps: P15.3: what is there already stays as it is: its Term tells that it is the same one.
func TestMergeKeeps(t *testing.T) {
	l := api.Log{Entries: []api.Entry{{Index: 1, Term: 1, Data: "mine"}, {Index: 2, Term: 1, Kind: api.EntryConf, Data: "\x01"}, {Index: 3, Term: 2, Data: "old"}}}
	es := []api.Entry{{Index: 1, Term: 1, Kind: api.EntryData, Data: "yours"}, {Index: 2, Term: 1}, {Index: 3, Term: 3, Kind: api.EntryConf, Data: "\x02"}, {Index: 4, Term: 3, Data: "\x00"}}
	merges(t, "all there", l, 0, 0, es[:2], l, false, 0)
	merges(t, "one parts", l, 0, 0, es[:3], api.Log{Entries: []api.Entry{l.Entries[0], l.Entries[1], es[2]}}, false, 0)
	merges(t, "one more", l, 1, 1, es[1:], api.Log{Entries: []api.Entry{l.Entries[0], l.Entries[1], es[2], es[3]}}, false, 0)
	merges(t, "below the base", api.Log{Base: 1, BaseTerm: 1, Entries: l.Entries[1:]}, 0, 7, []api.Entry{{Index: 1, Term: 7}, {Index: 2, Term: 7}}, api.Log{Base: 1, BaseTerm: 1, Entries: []api.Entry{{Index: 2, Term: 7}}}, false, 0)
}

// model tells what Merge does by the chapter's words, with each entry of l by its index; what is handed to it may be.
func model(l api.Log, prev, term int, es []api.Entry) (api.Log, bool, api.Errno) {
	terms := map[int]int{l.Base: l.BaseTerm}
	for _, e := range l.Entries {
		terms[e.Index] = e.Term
	}
	if prev < l.Base {
		prev, term = l.Base, l.BaseTerm
	}
	if t, there := terms[prev]; !there || t != term {
		return l, true, 0
	}
	m := api.Log{Base: l.Base, BaseTerm: l.BaseTerm, Entries: slices.Clone(l.Entries)}
	parted := false
	for _, e := range es {
		if e.Index <= l.Base {
			continue
		}
		if t, there := terms[e.Index]; !parted && (!there || t != e.Term) {
			parted = true
			m.Entries = slices.DeleteFunc(m.Entries, func(x api.Entry) bool { return x.Index >= e.Index })
		}
		if parted {
			m.Entries = append(m.Entries, e)
		}
	}
	if len(m.Entries) > api.MaxEntries {
		return api.Log{}, false, api.ErrFull
	}
	term = m.BaseTerm
	for _, e := range m.Entries {
		if e.Term < term {
			return api.Log{}, false, api.ErrForm
		}
		term = e.Term
	}
	return m, false, 0
}

// rising calls f with each list of at most n terms from low to high that do not fall.
func rising(n, low, high int, ahead []int, f func(terms []int)) {
	f(ahead)
	if n == 0 {
		return
	}
	for term := low; term <= high; term++ {
		rising(n-1, term, high, append(slices.Clone(ahead), term), f)
	}
}

// TestMergeEach: P15.3, P15.5: each small log with each small list of entries.
func TestMergeEach(t *testing.T) {
	count := 0
	for base := range 3 {
		for baseTerm := range 3 {
			rising(3, baseTerm, 2, nil, func(terms []int) {
				l := logOf(base, baseTerm, terms...)
				for prev := range 7 {
					for term := range 3 {
						rising(3, term, 2, nil, func(terms []int) {
							es := list(prev+1, terms...)
							m, miss, e := model(l, prev, term, es)
							merges(t, "", l, prev, term, es, m, miss, e)
							count++
						})
					}
				}
			})
		}
	}
	if count < 10000 {
		t.Errorf("%d merges", count)
	}
}

// someTerms are at most n terms from low on that do not fall.
func someTerms(r *rand.Rand, n, low int) (l []int) {
	for range r.Intn(n + 1) {
		if r.Intn(8) == 0 {
			low += r.Intn(3)
		}
		l = append(l, low)
	}
	return l
}

// TestMergeAtRandom: P15.3, P15.5: longer ones.
func TestMergeAtRandom(t *testing.T) {
	r := rand.New(rand.NewSource(1))
	kinds := map[string]int{}
	for range 6000 {
		base, baseTerm := r.Intn(40), r.Intn(4)
		l := logOf(base, baseTerm, someTerms(r, []int{5, 60, api.MaxEntries}[r.Intn(3)], baseTerm)...)
		index, _, _ := Last(l)
		prev := max(0, base-10) + r.Intn(index-base+14)
		term, e := Term(l, prev)
		isThere := e == nil
		if !isThere || r.Intn(10) == 0 {
			term, isThere = r.Intn(6), false
		}
		es := list(prev+1, someTerms(r, []int{3, 16, 600}[r.Intn(3)], term)...)
		if isThere && r.Intn(3) == 0 { // a leader's that has some of l, too
			es, _ = Slice(l, prev+1, r.Intn(600))
			end := term
			for _, e := range es {
				end = e.Term
			}
			es = append(es, list(prev+len(es)+1, someTerms(r, 9, end+r.Intn(2))...)...)
		}
		m, miss, n := model(l, prev, term, es)
		merges(t, "", l, prev, term, es, m, miss, n)
		kinds[fmt.Sprint(miss, n)]++
	}
	if len(kinds) != 4 {
		t.Errorf("only %v", kinds)
	}
}

// TestFollows: P15.5: what follows a leader's log, in pieces of any size that come more than once, comes to have all of it, and what parts from it is gone.
func TestFollows(t *testing.T) {
	r := rand.New(rand.NewSource(2))
	for range 500 {
		var evens, odds []int
		for _, term := range someTerms(r, 60, 0) {
			evens = append(evens, 2*term)
		}
		leader := logOf(0, 0, evens...)
		end := len(evens)
		k := r.Intn(end + 1)
		term, _ := Term(leader, k)
		for _, n := range someTerms(r, 60, term/2) { // of a leader that this one has never heard of
			odds = append(odds, 2*n+1)
		}
		l := logOf(0, 0, slices.Concat(evens[:k], odds)...)
		wanted := leader
		if k == end {
			wanted = own(l)
		}
		next := end + 1
		for steps := 0; next <= end || steps == 0; steps++ {
			if next < 1 || steps > 200 {
				t.Fatalf("%s does not follow %s", showLog(l), showLog(leader))
			}
			term, e := Term(leader, next-1)
			want(t, "Term", e, 0)
			es, e := Slice(leader, next, 1+r.Intn(5))
			want(t, "Slice", e, 0)
			m, miss, e := Merge(l, next-1, term, es)
			want(t, "Merge", e, 0)
			if miss && !same(m, l) {
				t.Fatalf("a miss changes %s to %s", showLog(l), showLog(m))
			}
			merges(t, "it comes again", m, next-1, term, es, m, miss, 0)
			l = m
			if miss {
				next--
			} else {
				next += len(es)
			}
		}
		tells(t, "behind the last piece", l, nil, wanted, 0)
	}
}

// TestCompact: P15.4: at each index, at Base, and beyond both ends.
func TestCompact(t *testing.T) {
	for _, l := range goodLogs() {
		last := l.Base + len(l.Entries)
		for i := l.Base + 1; i <= last; i++ {
			m, e := Compact(l, i)
			what := fmt.Sprintf("%s: Compact(%d)", showLog(l), i)
			if i > greatestBase {
				tells(t, what, m, e, api.Log{}, api.ErrForm)
				continue
			}
			k := i - l.Base
			tells(t, what, m, e, api.Log{Base: i, BaseTerm: l.Entries[k-1].Term, Entries: l.Entries[k:]}, 0)
		}
		for _, i := range []int{math.MinInt, -1, 0, l.Base - 1, l.Base, last + 1, last + 2, last + 1000, math.MaxInt} {
			if i > l.Base && i <= last {
				continue
			}
			m, e := Compact(l, i)
			tells(t, fmt.Sprintf("%s: Compact(%d)", showLog(l), i), m, e, api.Log{}, api.ErrForm)
		}
	}
	// The greatest base of all.
	l := logOf(greatestBase-2, 1, 1, 2, 3, 4)
	for i, c := range []struct {
		want api.Log
		e    api.Errno
	}{{logOf(greatestBase-1, 1, 2, 3, 4), 0}, {logOf(greatestBase, 2, 3, 4), 0}, {api.Log{}, api.ErrForm}, {api.Log{}, api.ErrForm}, {api.Log{}, api.ErrForm}} {
		m, e := Compact(l, greatestBase-1+i)
		tells(t, fmt.Sprint("Compact near the greatest base: ", i), m, e, c.want, c.e)
	}
}

// TestCompactThenRest: P15.4: a compacted log tells of what is left what it told ahead.
func TestCompactThenRest(t *testing.T) {
	l := logOf(3, 1, 1, 2, 2, 5)
	for i := 4; i <= 7; i++ {
		m, e := Compact(l, i)
		want(t, "Compact", e, 0)
		for k := 2; k <= 8; k++ {
			a, e := Term(l, k)
			b, f := Term(m, k)
			if k < i && number(t, "Term", f) != api.ErrNone || k >= i && (a != b || number(t, "Term", e) != number(t, "Term", f)) {
				t.Errorf("Compact(%d): Term(%d): %d, %v", i, k, b, f)
			}
		}
		a, b, _ := Last(m)
		if a != 7 || b != 5 {
			t.Errorf("Compact(%d): Last: %d, %d", i, a, b)
		}
	}
}

// TestNewer: P15.4: by Term, and at the same one by index.
func TestNewer(t *testing.T) {
	for _, l := range goodLogs() {
		last, term, _ := Last(l)
		for i, c := range []struct {
			index, term int
			want        bool
		}{
			{last, term, true},
			{last + 1, term, true},
			{last - 1, term, false},
			{math.MaxInt, term, true},
			{math.MinInt, term, false},
			{last, term + 1, true},
			{last, term - 1, false},
			{last + 1, term - 1, false},
			{last - 1, term + 1, true},
			{math.MaxInt, term - 1, false},
			{math.MinInt, term + 1, true},
			{0, math.MaxInt, true},
			{math.MinInt, math.MaxInt, true},
			{math.MaxInt, math.MinInt, false},
			{last, -1, false},
			{l.Base, l.BaseTerm, len(l.Entries) == 0},
		} {
			is, e := Newer(l, c.index, c.term)
			want(t, "Newer", e, 0)
			if is != c.want {
				t.Errorf("%s: %d: Newer(%d, %d): %v", showLog(l), i, c.index, c.term, is)
			}
		}
	}
}

// roomy is l with spare room behind its entries, which is not to be touched.
func roomy(l api.Log) api.Log {
	room := make([]api.Entry, len(l.Entries), len(l.Entries)+9)
	copy(room, l.Entries)
	l.Entries = room
	return l
}

// spoil writes over all of a list, its spare room, too.
func spoil(l []api.Entry) {
	for i := range l[:cap(l)] {
		l[:cap(l)][i] = api.Entry{Index: -7, Term: -7, Kind: -7, Data: "spoilt"}
	}
}

// answers tells all lists that calls answer for these two.
func answers(t *testing.T, l api.Log, es []api.Entry) (told [][]api.Entry) {
	t.Helper()
	index, term, e := Last(l)
	want(t, "Last", e, 0)
	put := func(m api.Log, e error) {
		t.Helper()
		want(t, "an answer", e, 0)
		told = append(told, m.Entries)
	}
	put(Append(l, es))
	put(Append(l, nil))
	put(Cut(l, index))
	put(Cut(l, index-1))
	put(Cut(l, l.Base))
	put(Compact(l, l.Base+1))
	put(Compact(l, index))
	for _, n := range []int{0, 1, 99} {
		for i := l.Base + 1; i <= index+1; i++ {
			part, e := Slice(l, i, n)
			put(api.Log{Entries: part}, e)
		}
	}
	merge := func(prev, term int, es []api.Entry) {
		m, _, e := Merge(l, prev, term, es)
		put(m, e)
	}
	merge(index, term, es)
	merge(index, term, nil)
	merge(index+5, term, nil)
	merge(0, 0, nil)
	merge(l.Base, l.BaseTerm, l.Entries)
	merge(l.Base, l.BaseTerm, list(l.Base+1, term+1, term+1))
	merge(l.Base-1, 0, append(list(l.Base, term), l.Entries...))
	merge(index-1, l.BaseTerm, append(list(index, term), es...))
	merge(index-1, 99, nil)
	return told
}

// TestMemory: R2: what is handed in is neither changed nor kept; no answer shares memory, spare room too, with it or with another.
func TestMemory(t *testing.T) {
	l, es := roomy(logOf(3, 1, 1, 1, 1)), roomy(api.Log{Entries: list(7, 1, 4)}).Entries
	fullRoom := slices.Clone(l.Entries[:cap(l.Entries)])
	fullEs := slices.Clone(es[:cap(es)])
	told := answers(t, l, es)
	if !slices.Equal(l.Entries[:cap(l.Entries)], fullRoom) || !slices.Equal(es[:cap(es)], fullEs) {
		t.Error("what was handed in is changed")
	}
	was := make([][]api.Entry, len(told))
	for i := range told {
		was[i] = slices.Clone(told[i])
	}
	spoil(l.Entries)
	spoil(es)
	for i := range told {
		if !slices.Equal(told[i], was[i]) {
			t.Errorf("answer %d shares memory with what was handed in", i)
		}
	}
	for i := range told {
		spoil(told[i])
		_ = append(told[i], api.Entry{Index: -8})
		for k := i + 1; k < len(told); k++ {
			if !slices.Equal(told[k], was[k]) {
				t.Fatalf("answers %d and %d share memory", i, k)
			}
		}
	}
	for i, e := range slices.Concat(l.Entries[:cap(l.Entries)], es[:cap(es)]) {
		if e.Index != -7 {
			t.Errorf("an answer is written over what was handed in, at %d", i)
		}
	}
}

// TestMemoryNewly: R1, R2: calls asked again, with what was told in between written over, tell the same.
func TestMemoryNewly(t *testing.T) {
	l, es := roomy(logOf(3, 1, 1, 1, 1)), list(7, 1, 4)
	first := answers(t, l, es)
	var was [][]api.Entry
	for i := range first {
		was = append(was, slices.Clone(first[i]))
		spoil(first[i])
	}
	for i, again := range answers(t, l, es) {
		if !slices.Equal(again, was[i]) {
			t.Errorf("answer %d: %s, ahead of it %s", i, show(again), show(was[i]))
		}
	}
}

// TestNil: R2: a nil list and an empty one are one.
func TestNil(t *testing.T) {
	for _, l := range []api.Log{{Base: 3, BaseTerm: 2}, {Base: 3, BaseTerm: 2, Entries: []api.Entry{}}} {
		for _, es := range [][]api.Entry{nil, {}} {
			m, e := Append(l, es)
			tells(t, "Append", m, e, l, 0)
			merges(t, "Merge", l, 3, 2, es, l, false, 0)
			merges(t, "Merge that misses", l, 4, 2, es, l, true, 0)
		}
		part, e := Slice(l, 4, 5)
		want(t, "Slice", e, 0)
		if len(part) > 0 {
			t.Errorf("Slice: %s", show(part))
		}
	}
}
