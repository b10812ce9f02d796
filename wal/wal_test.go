package wal

import (
	"errors"
	"fmt"
	"math"
	"math/rand"
	"slices"
	"strings"
	"testing"

	"dovecote/api"
	"dovecote/disk"
)

// greatest is the greatest index up to which a log may be dropped.
const greatest = 1<<40 - 2048

// errorNumber tells the number of an error, 0: there is none; it has no other number within it, and tells its layer.
func errorNumber(t *testing.T, what string, e error) api.Errno {
	t.Helper()
	if e == nil {
		return 0
	}
	var n api.Errno
	if !errors.As(e, &n) {
		t.Errorf("%s: error %v without a number", what, e)
	}
	for other := api.ErrForm; other <= api.ErrFull; other++ {
		if other != n && errors.Is(e, other) {
			t.Errorf("%s: error %v has %v within it, too", what, e, other)
		}
	}
	var f *api.Fault
	if !errors.As(e, &f) || f.Layer != "wal" {
		t.Errorf("%s: error %v does not tell its layer", what, e)
	}
	return n
}

func want(t *testing.T, what string, e error, n api.Errno) {
	t.Helper()
	if got := errorNumber(t, what, e); got != n {
		t.Errorf("%s: error %v, want number %d", what, e, n)
	}
}

// done: calls that are to be done.
func done(t *testing.T, errs ...error) {
	t.Helper()
	for i, e := range errs {
		want(t, fmt.Sprint("call ", i), e, 0)
	}
}

func show(l api.Log) string {
	var s strings.Builder
	fmt.Fprintf(&s, "%d/%d:", l.Base, l.BaseTerm)
	for _, e := range l.Entries {
		fmt.Fprintf(&s, " %d.%d.%d.%s", e.Index, e.Term, e.Kind, brief(e.Data))
	}
	return s.String()
}

// brief tells a text that is unlike for unlike ones, and short.
func brief(s string) string {
	if len(s) <= 12 {
		return fmt.Sprintf("%q", s)
	}
	h := 0
	for i := range len(s) {
		h = h*31 + int(s[i])
	}
	return fmt.Sprintf("%q..%d.%x", s[:4], len(s), uint(h))
}

func cutText(s string) string {
	if len(s) > 600 {
		return s[:400] + " .. " + s[len(s)-150:]
	}
	return s
}

func entry(i, term int, data string) api.Entry {
	return api.Entry{Index: i, Term: term, Kind: api.EntryData, Data: data}
}

// run are n entries from index i on, of one term.
func run(i, term, n int, data string) (l []api.Entry) {
	for k := range n {
		l = append(l, entry(i+k, term, data))
	}
	return l
}

func newDisk(t *testing.T, files ...api.File) *disk.Disk {
	t.Helper()
	d, e := disk.New(files)
	if e != nil {
		t.Fatal(e)
	}
	return d
}

func opened(t *testing.T, d *disk.Disk) *Wal {
	t.Helper()
	w, e := Open(d)
	if e != nil || w == nil {
		t.Fatalf("Open: %v", e)
	}
	return w
}

// fresh is a log on a new disk, with these entries.
func fresh(t *testing.T, l ...api.Entry) (*Wal, *disk.Disk) {
	t.Helper()
	d := newDisk(t)
	w := opened(t, d)
	done(t, w.Append(l))
	return w, d
}

// based is a log without entries, of that base.
func based(t *testing.T, base, term int) (*Wal, *disk.Disk) {
	t.Helper()
	w, d := fresh(t)
	if base > 0 {
		done(t, w.Drop(base, term))
	}
	return w, d
}

func tells(t *testing.T, w *Wal, s string) {
	t.Helper()
	if got := show(w.Log()); got != s {
		t.Errorf("Log: %s, want %s", cutText(got), cutText(s))
	}
}

// after is the disk as a crash leaves it.
func after(t *testing.T, d *disk.Disk, picks ...int) *disk.Disk {
	t.Helper()
	return newDisk(t, d.Crash(picks)...)
}

// stays: the log is told the same by what is opened over the disk as it is, and, once it is safe, over what any crash leaves of it.
func stays(t *testing.T, w *Wal, d *disk.Disk) {
	t.Helper()
	s := show(w.Log())
	tells(t, opened(t, d), s)
	done(t, w.Sync())
	for _, picks := range somePicks() {
		tells(t, opened(t, after(t, d, picks...)), s)
	}
}

func somePicks() [][]int {
	return [][]int{nil, {1, 1, 1, 1}, {2, 2, 2, 2}, {5, 5, 5, 5}, {2 + 3*7, 2 + 3*2}, {-1, -4}, {0, 1}, {1, 0}}
}

// TestExample: the chapter's: P11.4.
func TestExample(t *testing.T) {
	w, d := fresh(t)
	done(t, w.Append([]api.Entry{entry(1, 0, "1")}), w.Sync(), w.Append([]api.Entry{entry(2, 0, "2")}))
	one, both := `0/0: 1.0.1."1"`, `0/0: 1.0.1."1" 2.0.1."2"`
	tells(t, opened(t, after(t, d, 0)), one)
	tells(t, opened(t, after(t, d, 1)), both)
	for p := range 60 {
		if s := show(opened(t, after(t, d, p)).Log()); s != one && s != both {
			t.Errorf("pick %d: %s", p, s)
		}
	}
}

// TestOpen: P11.1.
func TestOpen(t *testing.T) {
	w, e := Open(nil)
	want(t, "Open of nil", e, api.ErrForm)
	if w != nil {
		t.Error("Open of nil: a log")
	}
	tells(t, opened(t, newDisk(t)), "0/0:")
	tells(t, opened(t, newDisk(t, api.File{Name: "a", Data: []byte("x")}, api.File{Name: "snap", Data: []byte("y")})), "0/0:")
	tells(t, opened(t, &disk.Disk{}), "0/0:")
	for _, l := range [][]api.Entry{nil, run(1, 3, 4, "abc")} {
		w, d := fresh(t, l...)
		done(t, w.Sync())
		d.Off(0)
		w, e := Open(d)
		want(t, "Open without power", e, api.ErrPower)
		if w != nil {
			t.Error("Open without power: a log")
		}
	}
	d := newDisk(t)
	d.Off(-3)
	w, e = Open(d)
	want(t, "Open of a disk without files and power", e, api.ErrPower)
	if w != nil {
		t.Error("Open of a disk without files and power: a log")
	}
}

// TestOpenLeft: P11.1: the log as it was left, whatever was done to it.
func TestOpenLeft(t *testing.T) {
	all := []api.Entry{
		{Index: 1}, {Index: 2, Kind: api.EntryConf, Data: "\x01\x02"}, {Index: 3, Term: 1, Kind: api.EntryData, Data: "\x00\xff\x00"}, {Index: 4, Term: 1<<40 - 1, Kind: api.EntryData, Data: strings.Repeat("\x00", api.MaxEntry)}, {Index: 5, Term: 1<<40 - 1, Data: strings.Repeat("z", api.MaxEntry)},
	}
	for n := range len(all) + 1 {
		w, d := fresh(t, all[:n]...)
		if got := w.Log(); got.Base != 0 || got.BaseTerm != 0 || !slices.Equal(got.Entries, all[:n]) {
			t.Errorf("%d entries: %s", n, cutText(show(got)))
		}
		stays(t, w, d)
		for i := range n + 1 {
			d := after(t, d)
			w := opened(t, d)
			done(t, w.Cut(i))
			if got := w.Log(); !slices.Equal(got.Entries, all[:i]) {
				t.Errorf("cut at %d: %s", i, cutText(show(got)))
			}
			stays(t, w, d)
		}
		for i := 1; i <= n; i++ {
			d := after(t, d)
			w := opened(t, d)
			done(t, w.Drop(i, all[i-1].Term))
			if got := w.Log(); got.Base != i || got.BaseTerm != all[i-1].Term || !slices.Equal(got.Entries, all[i:n]) {
				t.Errorf("dropped at %d: %s", i, cutText(show(got)))
			}
			stays(t, w, d)
		}
	}
}

// TestFiles: all files of a log have names that begin with wal; others are not touched; Open changes nothing.
func TestFiles(t *testing.T) {
	others := []api.File{{Name: "a", Data: []byte("x")}, {Name: "snap", Data: []byte("y")}, {Name: "wa", Data: []byte("z")}}
	d := newDisk(t, others...)
	w := opened(t, d)
	for k := range 60 {
		done(t, w.Append(run(1, k, 8, strings.Repeat("x", 1000))), w.Cut(0))
	}
	done(t, w.Append(run(1, 99, api.MaxEntries, strings.Repeat("x", api.MaxEntry))), w.Sync())
	names, _ := d.List()
	for _, name := range names {
		if b, _ := d.Read(name); !strings.HasPrefix(name, "wal") && !slices.ContainsFunc(others, func(f api.File) bool { return f.Name == name && string(f.Data) == string(b) }) {
			t.Errorf("file %s", name)
		}
	}
	for _, f := range others {
		if !slices.Contains(names, f.Name) {
			t.Errorf("file %s is gone", f.Name)
		}
	}
	calls := d.Calls()
	opened(t, d)
	if d.Calls() != calls {
		t.Errorf("Open: %d calls that may change the disk", d.Calls()-calls)
	}
}

// TestForeign: P11.1: bytes that no log has left are no entries.
func TestForeign(t *testing.T) {
	w, d := fresh(t, run(1, 2, 3, "abc")...)
	done(t, w.Sync())
	good := d.Crash(nil)[0]
	check := func(what, log string, files ...api.File) {
		t.Helper()
		d := newDisk(t, files...)
		w := opened(t, d)
		if s := show(w.Log()); s != log {
			t.Errorf("%s: %s", what, s)
		}
		next, _ := last(w.Log())
		done(t, w.Append([]api.Entry{entry(next+1, 9, "new")}))
		stays(t, w, d)
	}
	for i := range good.Data {
		for _, bit := range []byte{1, 8, 128} {
			b := slices.Clone(good.Data)
			b[i] ^= bit
			check(fmt.Sprintf("bit %d of byte %d", bit, i), "0/0:", api.File{Name: good.Name, Data: b})
		}
		check(fmt.Sprintf("%d bytes", i), "0/0:", api.File{Name: good.Name, Data: good.Data[:i]})
		check(fmt.Sprintf("%d bytes and noughts", i), "0/0:", api.File{Name: good.Name, Data: append(slices.Clone(good.Data[:i]), make([]byte, 200)...)})
	}
	check("behind the end", show(w.Log()), api.File{Name: good.Name, Data: append(slices.Clone(good.Data), "rubbish"...)})
	check("twice", show(w.Log()), api.File{Name: good.Name, Data: append(slices.Clone(good.Data), good.Data...)})
	for _, name := range []string{"wal", "wal.", "wal.0.0", "wal.-1.0", "wal.01.0", "wal.1.00", "wal.1.1", "wal.1.2", "wal.2.0", "wal.2.1", "wal.1.-1", "wal.9.7", "wal.9223372036854775807.0", "wal.9223372036854775808.0", "wal.x.y", "walrus", "wal-1"} {
		for _, data := range [][]byte{nil, []byte("rubbish"), make([]byte, 500), good.Data} {
			if string(data) == string(good.Data) && strings.HasSuffix(name, ".0") {
				continue
			}
			l := []api.File{good, {Name: name, Data: data}}
			slices.SortFunc(l, func(a, b api.File) int { return strings.Compare(a.Name, b.Name) })
			d := newDisk(t, l...)
			w := opened(t, d)
			tells(t, w, `0/0: 1.2.1."abc" 2.2.1."abc" 3.2.1."abc"`)
			done(t, w.Append([]api.Entry{entry(4, 9, "new")}))
			stays(t, w, d)
		}
	}
}

// TestRecords: what has a sum, but no log can have come to.
func TestRecords(t *testing.T) {
	begin := record{op: opBegin, index: 4, term: 2}
	for i, c := range []struct {
		rs   []record
		want string
	}{
		{[]record{begin}, "4/2:"},
		{[]record{begin, {op: opBegin, index: 9, term: 9}}, "4/2:"},
		{[]record{{op: opEntry, index: 1}}, "0/0:"},
		{[]record{{op: opCut}}, "0/0:"},
		{[]record{{op: opBegin, index: -1}}, "0/0:"},
		{[]record{{op: opBegin, index: greatest + 1}}, "0/0:"},
		{[]record{{op: opBegin, index: greatest, term: 1<<40 - 1}}, "1099511625728/1099511627775:"},
		{[]record{{op: opBegin, index: 1, term: 1 << 40}}, "0/0:"},
		{[]record{{op: opBegin, index: 1, term: -1}}, "0/0:"},
		{[]record{{op: opBegin, due: 1}}, "0/0:"},
		{[]record{{op: opBegin, due: -1}}, "0/0:"},
		{[]record{{op: opBegin, due: 2}, {op: opEntry, index: 1, due: 1}}, "0/0:"},
		{[]record{{op: opBegin, due: 2}, {op: opEntry, index: 1}}, "0/0:"},
		{[]record{{op: opBegin, due: 1}, {op: opEntry, index: 1, due: 1}, {op: opEntry, index: 2}}, "0/0:"},
		{[]record{{op: opBegin, due: 1}, {op: opEntry, index: 2}}, "0/0:"},
		{[]record{{op: opBegin, due: 2}, {op: opEntry, index: 1, due: 1}, {op: opEntry, index: 2, term: 7}}, `0/0: 1.0.0."" 2.7.0.""`},
		{[]record{begin, {op: opEntry, index: 5, term: 2, due: 1}}, "4/2:"},
		{[]record{begin, {op: opEntry, index: 5, term: 2, due: 1}, {op: opEntry, index: 6, term: 1}}, "4/2:"},
		{[]record{begin, {op: opEntry, index: 5, term: 2, due: math.MaxInt}}, "4/2:"},
		{[]record{begin, {op: opEntry, index: 5, term: 2}, {op: opCut, index: 4, due: 1}}, `4/2: 5.2.0.""`},
		{[]record{begin, {op: opEntry, index: 5, term: 2}, {op: opCut, index: 4, due: 2}, {op: opEntry, index: 5, term: 9, due: 1}}, `4/2: 5.2.0.""`},
		{[]record{begin, {op: opEntry, index: 5, term: 1}}, "4/2:"},
		{[]record{begin, {op: opEntry, index: 5, term: 2, kind: 3}}, "4/2:"},
		{[]record{begin, {op: opEntry, index: 5, term: 2, kind: -1}}, "4/2:"},
		{[]record{begin, {op: opEntry, index: 5, term: 1 << 40}}, "4/2:"},
		{[]record{begin, {op: opCut, index: 5}}, "4/2:"},
		{[]record{begin, {op: opCut, index: 3}}, "4/2:"},
		{[]record{begin, {op: opDrop, index: 4, term: 2}}, "4/2:"},
		{[]record{begin, {op: opDrop, index: 5, term: 1}}, "4/2:"},
		{[]record{begin, {op: opDrop, index: greatest + 1, term: 2}}, "4/2:"},
		{[]record{begin, {op: opDrop + 1}}, "4/2:"},
		{[]record{begin, {op: 0}}, "4/2:"},
	} {
		var p place
		var b []byte
		for _, r := range append(c.rs, record{op: 77}) {
			f := frame(p.sum, r)
			p.pass(f)
			b = append(b, f...)
		}
		d := newDisk(t, api.File{Name: "wal.3.0", Data: b})
		w := opened(t, d)
		if s := show(w.Log()); s != c.want {
			t.Errorf("%d: %s, want %s", i, s, c.want)
		}
		index, _ := last(w.Log())
		done(t, w.Append([]api.Entry{entry(index+1, 1<<40-1, "new")}))
		stays(t, w, d)
	}
}

// TestLogCopy: P11.1, R2: what is told is the reader's own, and what was handed in the caller's.
func TestLogCopy(t *testing.T) {
	l := run(1, 1, 3, "abc")
	w, d := fresh(t, l...)
	s := show(w.Log())
	l[0].Data, l[2].Term = "spoilt", 77
	tells(t, w, s)
	got := w.Log()
	got.Base, got.Entries[1].Data = 9, "spoilt"
	_ = append(got.Entries[:1], entry(7, 7, "spoilt"))
	tells(t, w, s)
	a, b := w.Log(), w.Log()
	_, _ = append(a.Entries, entry(4, 4, "a")), append(b.Entries, entry(4, 4, "b"))
	for _, x := range []api.Log{a, b} {
		for i := len(x.Entries); i < cap(x.Entries); i++ {
			x.Entries[:cap(x.Entries)][i].Data = "spare"
		}
	}
	done(t, w.Cut(2))
	if len(a.Entries) != 3 || a.Entries[2].Data != "abc" {
		t.Errorf("a log that was told is cut: %s", show(a))
	}
	done(t, w.Append(run(3, 5, 1, "new")), w.Drop(1, 1))
	if show(b) != s {
		t.Errorf("a log that was told is changed: %s", show(b))
	}
	tells(t, w, `1/1: 2.1.1."abc" 3.5.1."new"`)
	stays(t, w, d)
	more := make([]api.Entry, 1, 8)
	more[0] = entry(4, 6, "x")
	done(t, w.Append(more), w.Append([]api.Entry{entry(5, 6, "y")}))
	for _, x := range more[:8][1:] {
		if x != (api.Entry{}) {
			t.Errorf("what was handed in has %v behind it", x)
		}
	}
}

// TestAppendForm: P11.2: entries that may not be, or do not go on.
func TestAppendForm(t *testing.T) {
	w, d := fresh(t, entry(1, 3, "a"), entry(2, 5, "b"))
	s := show(w.Log())
	big := strings.Repeat("x", api.MaxEntry+1)
	wrong := map[string][]api.Entry{
		"Index again":     {entry(2, 5, "")},
		"Index 0":         {entry(0, 5, "")},
		"Index below 0":   {entry(-1, 5, "")},
		"Index skipped":   {entry(4, 5, "")},
		"Index far":       {entry(math.MaxInt, 5, "")},
		"Index lowest":    {entry(math.MinInt, 5, "")},
		"Term falls":      {entry(3, 4, "")},
		"Term 0":          {entry(3, 0, "")},
		"Term below 0":    {entry(3, -1, "")},
		"Term too great":  {entry(3, 1<<40, "")},
		"Term greatest":   {entry(3, math.MaxInt, "")},
		"Kind below":      {{Index: 3, Term: 5, Kind: -1}},
		"Kind above":      {{Index: 3, Term: 5, Kind: 3}},
		"Kind far":        {{Index: 3, Term: 5, Kind: 257}},
		"Data":            {entry(3, 5, big)},
		"second: Index":   {entry(3, 5, ""), entry(3, 5, "")},
		"second: skipped": {entry(3, 5, ""), entry(5, 5, "")},
		"second: falls":   {entry(3, 7, ""), entry(4, 6, "")},
		"second: Kind":    {entry(3, 5, ""), {Index: 4, Term: 5, Kind: 3}},
		"second: Data":    {entry(3, 5, ""), entry(4, 5, big)},
		"second: Term":    {entry(3, 5, ""), entry(4, 1<<40, "")},
		"full, too":       append(run(3, 5, api.MaxEntries, ""), entry(1, 1, "")),
	}
	for what, l := range wrong {
		calls := d.Calls()
		want(t, what, w.Append(l), api.ErrForm)
		tells(t, w, s)
		if d.Calls() != calls {
			t.Errorf("%s: the disk is written to", what)
		}
	}
	for _, l := range [][]api.Entry{{entry(3, 5, "")}, {entry(3, 1<<40-1, strings.Repeat("x", api.MaxEntry))}, {{Index: 3, Term: 5}, {Index: 4, Term: 6, Kind: api.EntryConf}}} {
		done(t, w.Append(l))
		if got := w.Log().Entries; !slices.Equal(got[2:], l) {
			t.Errorf("appended: %v", got)
		}
		done(t, w.Cut(2))
	}
	tells(t, w, s)
	stays(t, w, d)
}

// TestAppendBase: P11.2: behind a base without entries its term counts.
func TestAppendBase(t *testing.T) {
	w, d := based(t, 7, 4)
	for _, e := range []api.Entry{entry(8, 3, ""), entry(7, 4, ""), entry(9, 4, ""), entry(1, 4, ""), entry(8, 0, "")} {
		want(t, "an entry", w.Append([]api.Entry{e}), api.ErrForm)
	}
	tells(t, w, "7/4:")
	done(t, w.Append([]api.Entry{entry(8, 4, "x")}))
	tells(t, w, `7/4: 8.4.1."x"`)
	stays(t, w, d)
	w, d = fresh(t)
	want(t, "below 0", w.Append([]api.Entry{entry(1, -1, "")}), api.ErrForm)
	done(t, w.Append([]api.Entry{entry(1, 0, "")}))
	stays(t, w, d)
}

// TestGreatest: P11.2: the greatest base, term and index.
func TestGreatest(t *testing.T) {
	w, d := based(t, greatest, 1<<40-1)
	tells(t, w, "1099511625728/1099511627775:")
	want(t, "beyond the greatest index", w.Append(run(greatest+1, 1<<40-1, 2049, "")), api.ErrForm)
	want(t, "up to the greatest index", w.Append(run(greatest+1, 1<<40-1, 2048, "")), api.ErrFull)
	done(t, w.Append(run(greatest+1, 1<<40-1, api.MaxEntries, "")))
	want(t, "Drop of an entry beyond", w.Drop(greatest+1, 1<<40-1), api.ErrForm)
	if got := w.Log(); len(got.Entries) != api.MaxEntries || got.Entries[511].Index != greatest+512 {
		t.Errorf("%d entries", len(got.Entries))
	}
	stays(t, w, d)
}

// TestAppendNothing: P11.2.
func TestAppendNothing(t *testing.T) {
	w, d := fresh(t)
	done(t, w.Append(nil), w.Append([]api.Entry{}))
	tells(t, w, "0/0:")
	stays(t, w, d)
	done(t, w.Append(run(1, 1, 2, "x")), w.Append(nil))
	tells(t, w, `0/0: 1.1.1."x" 2.1.1."x"`)
	stays(t, w, d)
}

// TestFull: P11.2: as many entries as there may be, and one more.
func TestFull(t *testing.T) {
	for _, data := range []string{"", "abc", strings.Repeat("y", api.MaxEntry)} {
		w, d := fresh(t)
		want(t, "one too many", w.Append(run(1, 1, api.MaxEntries+1, data)), api.ErrFull)
		tells(t, w, "0/0:")
		done(t, w.Append(run(1, 1, api.MaxEntries-1, data)))
		want(t, "two more", w.Append(run(api.MaxEntries, 1, 2, data)), api.ErrFull)
		done(t, w.Append(run(api.MaxEntries, 2, 1, data)))
		s := show(w.Log())
		want(t, "one more", w.Append(run(api.MaxEntries+1, 2, 1, "")), api.ErrFull)
		want(t, "one more that may not be", w.Append(run(api.MaxEntries+1, 1, 1, "")), api.ErrForm)
		done(t, w.Append(nil))
		tells(t, w, s)
		stays(t, w, d)
		done(t, w.Drop(1, 1), w.Append(run(api.MaxEntries+1, 3, 1, data)))
		want(t, "one more", w.Append(run(api.MaxEntries+2, 3, 1, "")), api.ErrFull)
		stays(t, w, d)
		done(t, w.Cut(api.MaxEntries-1), w.Append(run(api.MaxEntries, 4, 2, data)))
		stays(t, w, d)
		if got := w.Log(); len(got.Entries) != api.MaxEntries || got.Entries[511].Term != 4 || got.Entries[509].Term != 1 {
			t.Errorf("%s", cutText(show(got)))
		}
	}
}

// TestCut: P11.2.
func TestCut(t *testing.T) {
	w, d := based(t, 4, 2)
	done(t, w.Append(run(5, 3, 3, "abc")))
	s := show(w.Log())
	for _, i := range []int{3, 0, -1, 8, 9, math.MaxInt, math.MinInt} {
		want(t, fmt.Sprint("Cut at ", i), w.Cut(i), api.ErrForm)
		tells(t, w, s)
	}
	done(t, w.Cut(7))
	tells(t, w, s)
	stays(t, w, d)
	done(t, w.Cut(6))
	tells(t, w, `4/2: 5.3.1."abc" 6.3.1."abc"`)
	want(t, "Cut at 7", w.Cut(7), api.ErrForm)
	stays(t, w, d)
	want(t, "an entry behind", w.Append(run(8, 3, 1, "")), api.ErrForm)
	done(t, w.Append(run(7, 9, 1, "new")))
	tells(t, w, `4/2: 5.3.1."abc" 6.3.1."abc" 7.9.1."new"`)
	stays(t, w, d)
	done(t, w.Cut(4), w.Cut(4))
	tells(t, w, "4/2:")
	stays(t, w, d)
	done(t, w.Append(run(5, 2, 1, "of the base's term")))
	stays(t, w, d)
}

// TestDrop: P11.2.
func TestDrop(t *testing.T) {
	w, d := based(t, 4, 2)
	done(t, w.Append([]api.Entry{entry(5, 3, "a"), entry(6, 3, "b"), entry(7, 6, "c")}))
	s := show(w.Log())
	for _, c := range [][2]int{
		{4, 2}, {3, 2}, {0, 0}, {-1, 2}, {math.MinInt, 2}, {5, 2}, {5, 4}, {5, 6}, {6, 6}, {7, 3}, {7, 7}, {5, -1}, {5, 1 << 40},
		{8, 1}, {8, 0}, {8, -1}, {8, 1 << 40}, {8, math.MaxInt}, {greatest + 1, 6}, {1 << 40, 6}, {math.MaxInt, 6}, {math.MaxInt, math.MaxInt}, {greatest, 1}, {greatest, 1 << 40},
	} {
		want(t, fmt.Sprintf("Drop at %v", c), w.Drop(c[0], c[1]), api.ErrForm)
		tells(t, w, s)
	}
	for _, c := range []struct {
		i, term int
		want    string
	}{
		{5, 3, `5/3: 6.3.1."b" 7.6.1."c"`}, {6, 3, `6/3: 7.6.1."c"`}, {7, 6, "7/6:"}, {8, 6, "8/6:"}, {8, 2, "8/2:"}, {9, 1<<40 - 1, "9/1099511627775:"}, {greatest, 2, "1099511625728/2:"}, {greatest, 1<<40 - 1, "1099511625728/1099511627775:"},
	} {
		done(t, w.Sync())
		d := after(t, d)
		w := opened(t, d)
		done(t, w.Drop(c.i, c.term))
		tells(t, w, c.want)
		want(t, "Cut below", w.Cut(c.i-1), api.ErrForm)
		want(t, "Drop again", w.Drop(c.i, c.term), api.ErrForm)
		stays(t, w, d)
		index, term := last(w.Log())
		want(t, "Term below", w.Append(run(index+1, term-1, 1, "")), api.ErrForm)
		want(t, "Index again", w.Append(run(index, term, 1, "")), api.ErrForm)
		done(t, w.Append(run(index+1, term, 1, "new")))
		if got := show(w.Log()); got != fmt.Sprintf("%s %d.%d.1.\"new\"", c.want, index+1, term) {
			t.Errorf("behind a Drop at %d: %s", c.i, got)
		}
		stays(t, w, d)
	}
	tells(t, w, s)
}

// TestSync: P11.3: told nil, the log is safe.
func TestSync(t *testing.T) {
	w, d := fresh(t)
	done(t, w.Sync())
	done(t, opened(t, newDisk(t)).Sync())
	for k := range 30 {
		done(t, w.Append(run(1+k, k, 1, strings.Repeat("x", 40*k))))
		s := show(w.Log())
		done(t, w.Sync())
		tells(t, opened(t, after(t, d)), s)
	}
	// What another one wrote, and left unsafe, becomes safe, too.
	done(t, w.Append(run(31, 40, 1, "left")))
	done(t, opened(t, d).Sync())
	tells(t, opened(t, after(t, d)), show(w.Log()))
}

// everyCall are all calls, with what may be and with what may not.
func everyCall(w *Wal) map[string]func() error {
	index, term := last(w.Log())
	return map[string]func() error{
		"Append":           func() error { return w.Append(run(index+1, term, 1, "x")) },
		"Append of none":   func() error { return w.Append(nil) },
		"Append of wrong":  func() error { return w.Append(run(-1, -1, 1, "x")) },
		"Append of many":   func() error { return w.Append(run(index+1, term, 600, "")) },
		"Cut":              func() error { return w.Cut(w.Log().Base) },
		"Cut of none":      func() error { return w.Cut(index) },
		"Cut of wrong":     func() error { return w.Cut(-1) },
		"Drop":             func() error { return w.Drop(index+1, term) },
		"Drop of wrong":    func() error { return w.Drop(-1, -1) },
		"Sync":             func() error { return w.Sync() },
		"Sync once again":  func() error { return w.Sync() },
		"Append once more": func() error { return w.Append(run(index+1, term, 1, "x")) },
	}
}

func wrongOnes() []string {
	return []string{"Append of wrong", "Append of many", "Cut of wrong", "Drop of wrong"}
}

// TestPower: P11.3: behind an error of the disk all is ErrPower, and Log as it was.
func TestPower(t *testing.T) {
	for _, l := range [][]api.Entry{nil, run(1, 1, 3, "abc")} {
		for what := range everyCall(&Wal{}) {
			w, d := fresh(t, l...)
			s := show(w.Log())
			d.Off(0)
			for _, wrong := range wrongOnes() {
				n := api.ErrForm
				if wrong == "Append of many" {
					n = api.ErrFull
				}
				want(t, wrong+" ahead of "+what, everyCall(w)[wrong](), n)
			}
			if slices.Contains(wrongOnes(), what) {
				continue
			}
			want(t, what, everyCall(w)[what](), api.ErrPower)
			tells(t, w, s)
			for other, f := range everyCall(w) {
				want(t, other+" behind "+what, f(), api.ErrPower)
				tells(t, w, s)
			}
		}
	}
}

// TestPowerNew: P11.3: a log that has no file yet.
func TestPowerNew(t *testing.T) {
	for what, f := range everyCall(&Wal{}) {
		want(t, what+" of none", f(), api.ErrPower)
		d := newDisk(t)
		w := opened(t, d)
		d.Off(0)
		if slices.Contains(wrongOnes(), what) {
			continue
		}
		want(t, what, everyCall(w)[what](), api.ErrPower)
		tells(t, w, "0/0:")
	}
}

// TestDiskErrors: P11.3: another error of the disk is told once.
func TestDiskErrors(t *testing.T) {
	var l []api.File
	for i := range api.MaxFiles {
		l = append(l, api.File{Name: fmt.Sprintf("f%02d", i)})
	}
	d := newDisk(t, l...)
	w := opened(t, d)
	done(t, w.Sync())
	want(t, "on a full disk", w.Append(run(1, 1, 1, "x")), api.ErrFull)
	tells(t, w, "0/0:")
	for what, f := range everyCall(w) {
		want(t, what, f(), api.ErrPower)
	}
	tells(t, opened(t, d), "0/0:")
	// No room for a second part.
	d = newDisk(t, l[1:]...)
	w = opened(t, d)
	big := strings.Repeat("x", api.MaxEntry)
	done(t, w.Append(run(1, 1, 200, big)))
	s := show(w.Log())
	want(t, "on a disk that gets full", w.Append(run(201, 1, 100, big)), api.ErrFull)
	tells(t, w, s)
	for what, f := range everyCall(w) {
		want(t, what, f(), api.ErrPower)
	}
	if got := opened(t, d).Log(); len(got.Entries) < 200 || !strings.HasPrefix(show(got), s) {
		t.Errorf("on a disk that is full: %d entries", len(got.Entries))
	}
	w, d = fresh(t, run(1, 1, 1, "x")...)
	names, _ := d.List()
	for _, name := range names {
		done(t, d.Remove(name))
	}
	want(t, "a file that is gone", w.Sync(), api.ErrNone)
	want(t, "a file that is gone", w.Sync(), api.ErrPower)
}

// step is a call, with the logs that it may leave if the power goes in it.
type step struct {
	name string
	call func(w *Wal) error
	next api.Log
	part []api.Log
	sync bool
}

// steps are a script's: n of them by chance, behind the log l. Great data make parts and generations end.
func steps(r *rand.Rand, l api.Log, n int, great bool) (out []step) {
	for range n {
		s := someStep(r, l, great)
		out = append(out, s)
		l = s.next
	}
	return out
}

func someStep(r *rand.Rand, l api.Log, great bool) step {
	index, term := last(l)
	switch k := r.Intn(10); {
	case k == 0 && len(l.Entries) > 0, k == 1 && great && len(l.Entries) > 0:
		i := l.Base + r.Intn(len(l.Entries)+1)
		next, _ := cutModel(l, i)
		return step{name: fmt.Sprint("Cut ", i), call: func(w *Wal) error { return w.Cut(i) }, next: next, part: []api.Log{next}}
	case k == 2:
		i, t := index+1+r.Intn(3), term+r.Intn(2)
		if len(l.Entries) > 0 && r.Intn(6) > 0 {
			e := l.Entries[r.Intn(len(l.Entries))]
			i, t = e.Index, e.Term
		}
		next := api.Log{Base: i, BaseTerm: t}
		for _, e := range l.Entries {
			if e.Index > i {
				next.Entries = append(next.Entries, e)
			}
		}
		return step{name: fmt.Sprint("Drop ", i), call: func(w *Wal) error { return w.Drop(i, t) }, next: next, part: []api.Log{next}}
	case k == 3, k == 4:
		return step{name: "Sync", call: func(w *Wal) error { return w.Sync() }, next: l, sync: true}
	}
	return appendStep(r, l, great)
}

func appendStep(r *rand.Rand, l api.Log, great bool) step {
	index, term := last(l)
	n, size := r.Intn(4), 90
	if great {
		n, size = r.Intn(12), api.MaxEntry
	}
	n = min(n, api.MaxEntries-len(l.Entries))
	var more []api.Entry
	var part []api.Log
	next := l
	for k := range n {
		term += r.Intn(2)
		data := strings.Repeat(string(rune('a'+r.Intn(3))), r.Intn(size+1))
		if r.Intn(3) == 0 {
			data = strings.Repeat("\x00", r.Intn(size+1))
		}
		more = append(more, api.Entry{Index: index + 1 + k, Term: term, Kind: r.Intn(3), Data: data})
		next.Entries = append(slices.Clone(next.Entries), more[k])
		part = append(part, next)
	}
	return step{name: fmt.Sprint("Append ", n), call: func(w *Wal) error { return w.Append(more) }, next: next, part: part}
}

func cutModel(l api.Log, i int) (api.Log, bool) {
	var left []api.Entry
	for _, e := range l.Entries {
		if e.Index <= i {
			left = append(left, e)
		}
	}
	return api.Log{Base: l.Base, BaseTerm: l.BaseTerm, Entries: left}, true
}

// follow does the steps till the power goes, and tells the logs that may be found then, and whether it went.
func follow(t *testing.T, w *Wal, l []step) (can map[string]int, lost bool) {
	t.Helper()
	can = map[string]int{show(w.Log()): 1}
	for _, s := range l {
		was := show(w.Log())
		if e := s.call(w); e != nil {
			want(t, s.name, e, api.ErrPower)
			tells(t, w, was)
			want(t, "Sync behind it", w.Sync(), api.ErrPower)
			want(t, "Append behind it", w.Append(nil), api.ErrPower)
			for _, p := range s.part {
				can[show(p)] = 1
			}
			return can, true
		}
		now := show(w.Log())
		if now != show(s.next) {
			t.Fatalf("%s: %s, want %s", s.name, cutText(now), cutText(show(s.next)))
		}
		if s.sync {
			clear(can)
		}
		can[now] = 1
	}
	return can, false
}

// holds: a crash leaves one of these logs, and what is opened is the same behind every later crash; tells the disk.
func holds(t *testing.T, d *disk.Disk, can map[string]int, picks []int) *disk.Disk {
	t.Helper()
	d = after(t, d, picks...)
	s := show(opened(t, d).Log())
	if can[s] == 0 {
		t.Fatalf("picks %d: %s is none of %d", picks, cutText(s), len(can))
	}
	for range 2 {
		d = after(t, d, picks...)
		tells(t, opened(t, d), s)
	}
	return d
}

// TestCrashes: P11.4: the power goes at each call of the disk, is back, and goes again.
func TestCrashes(t *testing.T) {
	for seed := range int64(25) {
		r := rand.New(rand.NewSource(seed))
		script := steps(r, api.Log{}, 25, false)
		for at := 1; ; at++ {
			d := newDisk(t)
			w := opened(t, d)
			d.Off(at)
			can, lost := follow(t, w, script)
			for p := range 14 {
				again := holds(t, d, can, []int{p, r.Intn(50), r.Intn(50)})
				w := opened(t, again)
				more := steps(r, w.Log(), 6, false)
				again.Off(1 + r.Intn(8))
				can, _ := follow(t, w, more)
				holds(t, again, can, []int{r.Intn(60), r.Intn(50), r.Intn(50)})
			}
			if !lost {
				break
			}
		}
	}
}

// TestCrashesGreat: P11.4: likewise where parts and generations end.
func TestCrashesGreat(t *testing.T) {
	for seed := range int64(4) {
		r := rand.New(rand.NewSource(seed))
		d := newDisk(t)
		w := opened(t, d)
		script := steps(r, w.Log(), 60, true)
		for at := 1; ; at++ {
			d := newDisk(t)
			w := opened(t, d)
			d.Off(at)
			can, lost := follow(t, w, script)
			for range 3 {
				again := holds(t, d, can, []int{r.Intn(3000), r.Intn(3000), r.Intn(3000)})
				w := opened(t, again)
				more := steps(r, w.Log(), 4, true)
				again.Off(1 + r.Intn(8))
				can, _ := follow(t, w, more)
				holds(t, again, can, []int{r.Intn(3000), r.Intn(3000), r.Intn(3000)})
			}
			if !lost {
				break
			}
		}
	}
}

// TestCrashesFull: P11.4: an Append that needs several files, the same written anew, and the power that goes again and again in it.
func TestCrashesFull(t *testing.T) {
	big := strings.Repeat("x", api.MaxEntry)
	whole := run(1, 1, api.MaxEntries, big)
	base := newDisk(t)
	w := opened(t, base)
	done(t, w.Append(run(1, 1, 10, big)), w.Sync())
	for round := range 3 {
		was := opened(t, base).Log()
		index, _ := last(was)
		for at := 1; ; at++ {
			d := after(t, base)
			w := opened(t, d)
			d.Off(at)
			e := w.Append(whole[index:])
			for _, p := range []int{0, 1, 2, 5, 2 + 3*1000, 2 + 3*20000, 2 + 3*32768, 2 + 3*32767} {
				found := after(t, d, p, p, p)
				got := opened(t, found).Log()
				if n := len(got.Entries); n < index || !slices.Equal(got.Entries, whole[:n]) {
					t.Fatalf("round %d, at %d, pick %d: %d entries", round, at, p, n)
				}
				w := opened(t, found)
				n := len(got.Entries)
				done(t, w.Append(run(n+1, 7, min(1, api.MaxEntries-n), "behind")), w.Sync())
				if again := opened(t, after(t, found, p)).Log(); !slices.Equal(again.Entries, w.Log().Entries) {
					t.Fatalf("round %d, at %d, pick %d: %d entries, then %d", round, at, p, n, len(again.Entries))
				}
			}
			if e == nil {
				break
			}
			want(t, "Append", e, api.ErrPower)
		}
		// What was torn is written anew by the next change.
		d := after(t, base)
		w := opened(t, d)
		done(t, w.Append(whole[index:200]))
		if round == 1 {
			done(t, w.Sync())
		}
		base = after(t, d, 2+3*9000)
	}
	// Powers that go again and again fill no disk.
	for at := range 30 {
		w := opened(t, base)
		index, _ := last(w.Log())
		base.Off(1 + at%9)
		if e := w.Append(whole[index:]); e == nil {
			e = w.Cut(200)
			want(t, "Cut", e, errorNumber(t, "Cut", e))
		}
		base = after(t, base, 2+3*at, 2+3*5*at)
		if names, _ := base.List(); len(names) > 9 {
			t.Fatalf("%d files", len(names))
		}
	}
}

// TestRoom: however often a log is changed, it needs few files: others have room on the disk, too.
func TestRoom(t *testing.T) {
	big := strings.Repeat("x", api.MaxEntry)
	d := newDisk(t)
	w := opened(t, d)
	most := 0
	count := func() {
		names, _ := d.List()
		most = max(most, len(names))
	}
	done(t, w.Append(run(1, 1, api.MaxEntries, big)))
	for k := range 1500 {
		i := w.Log().Base + api.MaxEntries - k%5
		done(t, w.Cut(i-1), w.Append(run(i, 2+k, 1+k%5, big)))
		count()
		if k%7 == 0 {
			e := w.Log().Entries[0]
			done(t, w.Drop(e.Index, e.Term), w.Append(run(e.Index+api.MaxEntries, 2+k, 1, big)))
		}
	}
	if most > 8 {
		t.Errorf("%d files", most)
	}
	stays(t, w, d)
	w, d = fresh(t)
	for k := range 20000 {
		done(t, w.Append(run(1+k, k, 1, "abc")), w.Drop(1+k, k))
		if k%100 == 0 {
			done(t, w.Sync())
		}
	}
	names, _ := d.List()
	if b, _ := d.Read(names[0]); len(names) != 1 || len(b) > 1<<16 {
		t.Errorf("%d files, %d bytes", len(names), len(b))
	}
	stays(t, w, d)
}

// TestPartEnds: P11.1, P11.2: entries that just fill a file, or just do not.
func TestPartEnds(t *testing.T) {
	for delta := -2; delta <= 2; delta++ {
		w, d := fresh(t, run(1, 1, 253, strings.Repeat("x", api.MaxEntry))...)
		done(t, w.Append(run(254, 1, 1, strings.Repeat("y", api.MaxFile-w.at.size-wideFrame+delta))))
		done(t, w.Append(run(255, 1, 2, "z")))
		if got := w.Log(); len(got.Entries) != 256 {
			t.Errorf("%d entries", len(got.Entries))
		}
		stays(t, w, d)
	}
}

// TestTwoLogs: R2: logs of unlike disks have nothing in common.
func TestTwoLogs(t *testing.T) {
	a, d := fresh(t, run(1, 1, 3, "a")...)
	b := opened(t, after(t, d, 1))
	done(t, a.Cut(1), b.Drop(2, 1))
	tells(t, a, `0/0: 1.1.1."a"`)
	tells(t, b, `2/1: 3.1.1."a"`)
}
