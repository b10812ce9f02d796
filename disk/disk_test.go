package disk

import (
	"bytes"
	"errors"
	"fmt"
	"maps"
	"math"
	"math/rand"
	"slices"
	"strings"
	"testing"

	"dovecote/api"
)

// noNames: names that no file has.
var noNames = []string{
	"", " ", "A", "Z", "_", "/", "a/b", "a b", " a", "a ", "a_", "_a", "a\x00", "\x00", "a\n", "aBc", "`", "{", "@", "[", ":", ",", "+", "a+b", "*",
	"\xff", "a\x80", "é", "ä.b", "\u0430", "\u2010", strings.Repeat("n", api.MaxName+1), strings.Repeat(".", api.MaxName+1), strings.Repeat("n", 1000), strings.Repeat("n", api.MaxName) + "A",
}

// goodNames: names that a file may have.
var goodNames = []string{
	"a", "z", "0", "9", ".", "-", "..", "--", "a.b-c", "m5", "-a", ".a", "abcdefghijklmnopqrstuvwxyz", "0123456789.-", strings.Repeat("n", api.MaxName), strings.Repeat("-", api.MaxName), strings.Repeat("n", api.MaxName-1),
}

// number tells the number of an error, 0: there is none; it has no other number within it, and tells its layer.
func number(t *testing.T, what string, e error) api.Errno {
	t.Helper()
	if e == nil {
		return 0
	}
	var n api.Errno
	if !errors.As(e, &n) {
		t.Errorf("%s: error %v without a number", what, e)
	}
	for other := api.ErrForm; other <= api.ErrFull; other++ {
		if other != n && errors.Is(e, other) {
			t.Errorf("%s: error %v has %v within it, too", what, e, other)
		}
	}
	var f *api.Fault
	if !errors.As(e, &f) || f.Layer != "disk" {
		t.Errorf("%s: error %v does not tell its layer", what, e)
	}
	return n
}

func want(t *testing.T, what string, e error, n api.Errno) {
	t.Helper()
	if got := number(t, what, e); got != n {
		t.Errorf("%s: error %v, want number %d", brief(what), e, n)
	}
}

// brief cuts what is too long to be shown.
func brief(s string) string {
	if len(s) > 300 {
		return s[:200] + ".." + s[len(s)-80:]
	}
	return s
}

func show(l []api.File) string {
	s := make([]string, len(l))
	for i, f := range l {
		s[i] = fmt.Sprintf("%s=%q", f.Name, f.Data)
	}
	return strings.Join(s, " ")
}

// same: a nil list and an empty one are one.
func same(a, b []api.File) bool {
	return slices.EqualFunc(a, b, func(x, y api.File) bool { return x.Name == y.Name && bytes.Equal(x.Data, y.Data) })
}

// text makes a file.
func text(name, data string) api.File {
	return api.File{Name: name, Data: []byte(data)}
}

// made is a disk with these files.
func made(t *testing.T, files ...api.File) *Disk {
	t.Helper()
	d, e := New(files)
	if e != nil || d == nil {
		t.Fatalf("New of %s: %v", brief(show(files)), e)
	}
	return d
}

// done: a call that is to be done.
func done(t *testing.T, e error) {
	t.Helper()
	want(t, "a call", e, 0)
}

// reads: the file has these bytes.
func reads(t *testing.T, d *Disk, name, data string) {
	t.Helper()
	if b, e := d.Read(name); e != nil || string(b) != data {
		t.Errorf("Read of %s: %s, %v; want %s", name, brief(fmt.Sprintf("%q", b)), e, brief(fmt.Sprintf("%q", data)))
	}
}

func lists(t *testing.T, d *Disk, names string) {
	t.Helper()
	if l, e := d.List(); e != nil || strings.Join(l, " ") != names {
		t.Errorf("List: %q, %v; want %q", l, e, names)
	}
}

// finds: a crash leaves these files.
func finds(t *testing.T, d *Disk, picks []int, files ...api.File) {
	t.Helper()
	was := slices.Clone(picks)
	if got := d.Crash(picks); !same(got, files) {
		t.Errorf("Crash of %d: %s; want %s", picks, brief(show(got)), brief(show(files)))
	}
	if !slices.Equal(picks, was) {
		t.Errorf("Crash of %d: picks are changed: %d", was, picks)
	}
}

// many are n files by rising names.
func many(n int) (l []api.File) {
	for i := range n {
		l = append(l, text(fmt.Sprintf("f%03d", i), fmt.Sprint("x", i)))
	}
	return l
}

// named are the calls that take a name, each with that one; Calls counts those of the first five.
func named(d *Disk, name string) map[string]func() error {
	return map[string]func() error{
		"Append":  func() error { return d.Append(name, []byte("x")) },
		"Cut":     func() error { return d.Cut(name, 0) },
		"Sync":    func() error { return d.Sync(name) },
		"Rename":  func() error { return d.Rename(name, "to") },
		"Rename2": func() error { return d.Rename("a", name) },
		"Remove":  func() error { return d.Remove(name) },
		"Read":    func() error { _, e := d.Read(name); return e },
	}
}

// TestExample: the chapter's.
func TestExample(t *testing.T) {
	d := made(t)
	done(t, d.Append("a", []byte("abc")))
	finds(t, d, []int{1}, text("a", "abc"))
	finds(t, d, []int{0}, text("a", ""))
}

// TestNew: P10.1: the files are there, all safe.
func TestNew(t *testing.T) {
	for _, l := range [][]api.File{
		nil, {}, {text("a", "")}, {text("a", "abc")}, {text("a", "x"), text("b", "")}, {text("-", "1"), text(".", "2"), text("0", "3"), text("a", "4"), text("a-", "5"), text("aa", "6"), text("b", "7")},
		{text("a", strings.Repeat("x", api.MaxFile))}, {text("a", strings.Repeat("x", api.MaxFile-1)), text("b", strings.Repeat("y", api.MaxFile))}, many(1), many(api.MaxFiles - 1), many(api.MaxFiles),
	} {
		d := made(t, l...)
		var names []string
		for _, f := range l {
			names = append(names, f.Name)
			reads(t, d, f.Name, string(f.Data))
		}
		lists(t, d, strings.Join(names, " "))
		for _, picks := range [][]int{nil, {0}, {1, 1}, {2, 2, 2, 2}, {-1}} {
			finds(t, d, picks, l...)
		}
		if d.Calls() != 0 {
			t.Errorf("New of %s: %d calls", brief(show(l)), d.Calls())
		}
	}
	for _, name := range goodNames {
		reads(t, made(t, text(name, "x")), name, "x")
	}
}

// TestNewWrong: P10.1: what is no disk.
func TestNewWrong(t *testing.T) {
	wrong := map[string][]api.File{
		"falling":             {text("b", ""), text("a", "")},
		"falling at the end":  {text("a", ""), text("c", ""), text("b", "")},
		"twice":               {text("a", ""), text("a", "")},
		"twice apart":         {text("a", ""), text("b", ""), text("a", "")},
		"the shorter behind":  {text("ab", ""), text("a", "")},
		"digits behind":       {text("a", ""), text("0", "")},
		"too long":            {text("a", strings.Repeat("x", api.MaxFile+1))},
		"too long at the end": {text("a", ""), text("b", strings.Repeat("x", api.MaxFile+1))},
		"one too many":        many(api.MaxFiles + 1),
		"many too many":       many(500),
	}
	for _, name := range noNames {
		wrong["name "+name] = []api.File{text(name, "")}
		wrong["name behind "+name] = []api.File{text("-", ""), text(name, "")}
	}
	for what, l := range wrong {
		d, e := New(l)
		want(t, "New, "+what, e, api.ErrForm)
		if d != nil {
			t.Errorf("New, %s: a disk beside an error", brief(what))
		}
	}
}

// TestNames: P10.2, P10.3: what is no name is refused by each call, also without power, and counts nothing.
func TestNames(t *testing.T) {
	for _, off := range []bool{false, true} {
		for _, name := range noNames {
			d := made(t, text("a", "x"))
			if off {
				d.Off(0)
			}
			for what, call := range named(d, name) {
				want(t, fmt.Sprintf("%s of %q", what, name), call(), api.ErrForm)
			}
			want(t, "Rename", d.Rename("none", name), api.ErrForm)
			want(t, "Rename", d.Rename(name, name), api.ErrForm)
			want(t, "Append", d.Append(name, make([]byte, api.MaxFile+1)), api.ErrForm)
			want(t, "Cut", d.Cut(name, -1), api.ErrForm)
			want(t, "Cut", d.Cut(name, 9), api.ErrForm)
			if d.Calls() != 0 {
				t.Errorf("%q: %d calls", name, d.Calls())
			}
			finds(t, d, []int{1}, text("a", "x"))
		}
	}
	for _, name := range goodNames {
		d := made(t, text(".z", "x"))
		done(t, d.Append(name, []byte("abc")))
		done(t, d.Cut(name, 2))
		done(t, d.Sync(name))
		reads(t, d, name, "ab")
		done(t, d.Rename(name, "to"))
		done(t, d.Rename("to", name))
		reads(t, d, name, "ab")
		done(t, d.Remove(name))
		lists(t, d, ".z")
		if d.Calls() != 6 {
			t.Errorf("%q: %d calls", name, d.Calls())
		}
	}
}

// TestAppend: P10.2: seen bytes grow, to MaxFile at most, safe ones do not.
func TestAppend(t *testing.T) {
	d := made(t, text("b", "12"))
	for i := range 5 {
		done(t, d.Append("b", []byte{byte('3' + i)}))
	}
	done(t, d.Append("b", nil))
	done(t, d.Append("b", []byte{}))
	reads(t, d, "b", "1234567")
	done(t, d.Append("a", []byte("new")))
	done(t, d.Append("c", nil))
	lists(t, d, "a b c")
	reads(t, d, "a", "new")
	reads(t, d, "c", "")
	finds(t, d, nil, text("a", ""), text("b", "12"), text("c", ""))
	finds(t, d, []int{1, 1, 1}, text("a", "new"), text("b", "1234567"), text("c", ""))

	half := bytes.Repeat([]byte("h"), api.MaxFile/2)
	done(t, d.Append("m", half))
	done(t, d.Append("m", half[1:]))
	want(t, "Append of two to MaxFile - 1", d.Append("m", []byte("xy")), api.ErrLimit)
	done(t, d.Append("m", []byte("z")))
	want(t, "Append to MaxFile", d.Append("m", []byte("z")), api.ErrLimit)
	done(t, d.Append("m", nil))
	reads(t, d, "m", strings.Repeat("h", api.MaxFile-1)+"z")
	done(t, d.Append("n", bytes.Repeat([]byte("n"), api.MaxFile)))
	want(t, "Append of one more, new", d.Append("o", make([]byte, api.MaxFile+1)), api.ErrLimit)
	lists(t, d, "a b c m n")
	// The limit is of what is seen, not of what is safe.
	done(t, d.Sync("n"))
	done(t, d.Cut("n", 1))
	done(t, d.Append("n", make([]byte, api.MaxFile-1)))
	want(t, "Append", d.Append("n", make([]byte, 1)), api.ErrLimit)
}

// TestFull: P10.2: a new file beside MaxFiles others.
func TestFull(t *testing.T) {
	d := made(t, many(api.MaxFiles-1)...)
	done(t, d.Append("new", []byte("x")))
	want(t, "Append", d.Append("more", []byte("x")), api.ErrFull)
	want(t, "Append of nothing", d.Append("more", nil), api.ErrFull)
	want(t, "Append of too much", d.Append("more", make([]byte, api.MaxFile+1)), api.ErrLimit)
	done(t, d.Append("f000", []byte("y")))
	want(t, "Append", d.Append("f000", make([]byte, api.MaxFile)), api.ErrLimit)
	// A rename needs no room.
	done(t, d.Rename("f001", "more"))
	want(t, "Append", d.Append("f001", nil), api.ErrFull)
	done(t, d.Remove("f003"))
	done(t, d.Append("f001", []byte("z")))
	want(t, "Append", d.Append("f003", nil), api.ErrFull)
	done(t, d.Rename("f001", "f002"))
	done(t, d.Append("f003", nil))
	reads(t, d, "f002", "z")
	reads(t, d, "more", "x1")
	d.Off(0)
	want(t, "Append", d.Append("none", nil), api.ErrPower)
}

// TestCut: P10.2.
func TestCut(t *testing.T) {
	d := made(t, text("a", "abcd"))
	for _, n := range []int{-1, -2, math.MinInt} {
		want(t, fmt.Sprint("Cut to ", n), d.Cut("a", n), api.ErrForm)
		want(t, fmt.Sprint("Cut of none to ", n), d.Cut("none", n), api.ErrForm)
	}
	if d.Calls() != 0 {
		t.Errorf("%d calls", d.Calls())
	}
	for _, n := range []int{5, 6, math.MaxInt} {
		want(t, fmt.Sprint("Cut to ", n), d.Cut("a", n), api.ErrForm)
		want(t, fmt.Sprint("Cut of none to ", n), d.Cut("none", n), api.ErrNone)
	}
	if d.Calls() != 6 {
		t.Errorf("%d calls", d.Calls())
	}
	reads(t, d, "a", "abcd")
	done(t, d.Cut("a", 4))
	reads(t, d, "a", "abcd")
	done(t, d.Cut("a", 3))
	reads(t, d, "a", "abc")
	want(t, "Cut beyond what is seen", d.Cut("a", 4), api.ErrForm)
	finds(t, d, nil, text("a", "abcd"))
	finds(t, d, []int{1}, text("a", "abc"))
	done(t, d.Append("a", []byte("x")))
	finds(t, d, nil, text("a", "abcd"))
	finds(t, d, []int{1}, text("a", "abcx"))
	done(t, d.Cut("a", 0))
	reads(t, d, "a", "")
	done(t, d.Cut("a", 0))
	want(t, "Cut of an empty one", d.Cut("a", 1), api.ErrForm)
	finds(t, d, nil, text("a", "abcd"))
	lists(t, d, "a")
	d.Off(0)
	want(t, "Cut", d.Cut("a", 9), api.ErrPower)
	want(t, "Cut", d.Cut("none", 9), api.ErrPower)
	want(t, "Cut", d.Cut("a", -9), api.ErrForm)
}

// TestSync: P10.2: what is seen is safe, of that file alone; what comes behind is not.
func TestSync(t *testing.T) {
	d := made(t, text("a", "abcd"), text("b", "x"))
	done(t, d.Append("a", []byte("ef")))
	done(t, d.Append("b", []byte("y")))
	done(t, d.Sync("a"))
	finds(t, d, nil, text("a", "abcdef"), text("b", "x"))
	done(t, d.Append("a", []byte("gh")))
	finds(t, d, nil, text("a", "abcdef"), text("b", "x"))
	done(t, d.Cut("a", 2))
	done(t, d.Append("a", []byte("CDEF")))
	finds(t, d, nil, text("a", "abcdef"), text("b", "x"))
	done(t, d.Sync("a"))
	finds(t, d, nil, text("a", "abCDEF"), text("b", "x"))
	done(t, d.Cut("a", 0))
	done(t, d.Sync("a"))
	finds(t, d, nil, text("a", ""), text("b", "x"))
	want(t, "Sync", d.Sync("none"), api.ErrNone)
	d.Off(0)
	want(t, "Sync", d.Sync("none"), api.ErrPower)
	want(t, "Sync", d.Sync("b"), api.ErrPower)
	finds(t, d, nil, text("a", ""), text("b", "x"))
}

// TestRename: P10.2, P10.3: safe and seen go along, what was there is gone; to itself it stays.
func TestRename(t *testing.T) {
	d := made(t, text("a", "1"), text("b", "2"), text("c", "3"))
	done(t, d.Append("a", []byte("x")))
	done(t, d.Append("b", []byte("y")))
	done(t, d.Rename("a", "b"))
	lists(t, d, "b c")
	reads(t, d, "b", "1x")
	finds(t, d, nil, text("b", "1"), text("c", "3"))
	finds(t, d, []int{1}, text("b", "1x"), text("c", "3"))
	want(t, "Rename of what is gone", d.Rename("a", "d"), api.ErrNone)
	want(t, "Rename of what is gone over another", d.Rename("a", "c"), api.ErrNone)
	want(t, "Rename of none to itself", d.Rename("a", "a"), api.ErrNone)
	lists(t, d, "b c")
	calls := d.Calls()
	done(t, d.Rename("b", "b"))
	if d.Calls() != calls+1 {
		t.Errorf("Rename to itself: %d calls more", d.Calls()-calls)
	}
	lists(t, d, "b c")
	finds(t, d, nil, text("b", "1"), text("c", "3"))
	finds(t, d, []int{1}, text("b", "1x"), text("c", "3"))
	done(t, d.Rename("b", "z"))
	finds(t, d, nil, text("c", "3"), text("z", "1"))
	// A new file under the old name has nothing of it.
	done(t, d.Append("b", []byte("new")))
	finds(t, d, nil, text("b", ""), text("c", "3"), text("z", "1"))
	done(t, d.Append("z", []byte("!")))
	reads(t, d, "b", "new")
	reads(t, d, "z", "1x!")
	d.Off(0)
	want(t, "Rename", d.Rename("none", "b"), api.ErrPower)
	want(t, "Rename", d.Rename("b", "c"), api.ErrPower)
	finds(t, d, nil, text("b", ""), text("c", "3"), text("z", "1"))
}

// TestRemove: P10.2.
func TestRemove(t *testing.T) {
	d := made(t, text("a", "1"), text("b", "2"))
	done(t, d.Remove("a"))
	want(t, "Remove of what is gone", d.Remove("a"), api.ErrNone)
	lists(t, d, "b")
	finds(t, d, []int{0}, text("b", "2"))
	done(t, d.Append("a", []byte("x")))
	finds(t, d, []int{0}, text("a", ""), text("b", "2"))
	done(t, d.Remove("b"))
	done(t, d.Remove("a"))
	lists(t, d, "")
	finds(t, d, []int{1, 1})
	done(t, d.Append("b", []byte("x")))
	d.Off(0)
	want(t, "Remove", d.Remove("b"), api.ErrPower)
	want(t, "Remove", d.Remove("none"), api.ErrPower)
	finds(t, d, []int{1}, text("b", "x"))
}

// TestRead: P10.3: Read and List.
func TestRead(t *testing.T) {
	d := made(t, text("b", "2"), text("z", "\x00\xff"))
	done(t, d.Append("a", nil))
	want(t, "Read", func() error { _, e := d.Read("c"); return e }(), api.ErrNone)
	reads(t, d, "z", "\x00\xff")
	reads(t, d, "a", "")
	lists(t, d, "a b z")
	d.Off(-1)
	for _, name := range []string{"a", "b", "none"} {
		b, e := d.Read(name)
		want(t, "Read", e, api.ErrPower)
		if len(b) != 0 {
			t.Errorf("Read of %s: %q beside an error", name, b)
		}
	}
	l, e := d.List()
	want(t, "List", e, api.ErrPower)
	if len(l) != 0 {
		t.Errorf("List: %q beside an error", l)
	}
	if d.Calls() != 1 {
		t.Errorf("%d calls", d.Calls())
	}
}

// TestCalls: P10.3: each call counts that was not told ErrForm for a name or an n below 0; what only looks does not.
func TestCalls(t *testing.T) {
	d := made(t, many(api.MaxFiles)...)
	at := 0
	for i, c := range []struct {
		e    error
		n    api.Errno
		more int
	}{
		{d.Append("f000", nil), 0, 1},
		{d.Append("f000", make([]byte, api.MaxFile)), api.ErrLimit, 1},
		{d.Append("g", nil), api.ErrFull, 1},
		{d.Append("G", nil), api.ErrForm, 0},
		{d.Cut("f000", 1), 0, 1},
		{d.Cut("f000", 2), api.ErrForm, 1},
		{d.Cut("f000", -1), api.ErrForm, 0},
		{d.Cut("F", 1), api.ErrForm, 0},
		{d.Cut("g", 1), api.ErrNone, 1},
		{d.Sync("f000"), 0, 1},
		{d.Sync("g"), api.ErrNone, 1},
		{d.Sync(""), api.ErrForm, 0},
		{d.Rename("f000", "g"), 0, 1},
		{d.Rename("f000", "g"), api.ErrNone, 1},
		{d.Rename("g", "g"), 0, 1},
		{d.Rename("g", "G"), api.ErrForm, 0},
		{d.Rename("G", "g"), api.ErrForm, 0},
		{d.Remove("g"), 0, 1},
		{d.Remove("g"), api.ErrNone, 1},
		{d.Remove("G"), api.ErrForm, 0},
	} {
		want(t, fmt.Sprint("call ", i), c.e, c.n)
		at += c.more
	}
	d.Read("f001")
	d.Read("none")
	d.Read("NONE")
	d.List()
	d.Crash([]int{1})
	d.Calls()
	if d.Calls() != at {
		t.Errorf("%d calls, want %d", d.Calls(), at)
	}
}

// TestCallsOneByOne: P10.3: each of the five counts on its own, done or not.
func TestCallsOneByOne(t *testing.T) {
	for what := range named(nil, "") {
		for _, name := range []string{"a", "none", "NONE"} {
			for _, off := range []bool{false, true} {
				d := made(t, text("a", "x"))
				if off {
					d.Off(0)
				}
				named(d, name)[what]()
				n := 1
				if what == "Read" || name == "NONE" {
					n = 0
				}
				if d.Calls() != n {
					t.Errorf("%s of %s, off %v: %d calls, want %d", what, name, off, d.Calls(), n)
				}
			}
		}
	}
}

// TestOff: P10.3: the n-th call more, of any kind and however it ends, is the first that is not done.
func TestOff(t *testing.T) {
	for n := -3; n < 8; n++ {
		for before := range 3 {
			d := made(t, text("a", "0"))
			for range before {
				done(t, d.Sync("a"))
			}
			d.Off(n)
			text := "0"
			for k := 1; k < 12; k++ {
				number := api.Errno(0)
				if k >= n {
					number = api.ErrPower
				}
				_, read := d.Read("a")
				_, list := d.List()
				if k > 1 || n < 1 {
					last := api.Errno(0)
					if k-1 >= n {
						last = api.ErrPower
					}
					want(t, "Read ahead", read, last)
					want(t, "List ahead", list, last)
				}
				want(t, "a name", d.Append("A", nil), api.ErrForm)
				want(t, "an n below 0", d.Cut("a", -1), api.ErrForm)
				want(t, fmt.Sprintf("Off %d, call %d", n, k), d.Append("a", []byte{byte('a' + k)}), number)
				if number == 0 {
					text += string(rune('a' + k))
				}
				if d.Calls() != before+k {
					t.Errorf("Off %d, call %d: %d calls", n, k, d.Calls())
				}
			}
			if l := d.Crash([]int{1}); string(l[0].Data) != text {
				t.Errorf("Off %d: %q, want %q", n, l[0].Data, text)
			}
		}
	}
}

// TestOffKinds: P10.3: the call at which the power goes changes nothing, whatever it is; nor do those behind it.
func TestOffKinds(t *testing.T) {
	for what := range named(nil, "") {
		for _, name := range []string{"a", "b", "none"} {
			for n := range 3 {
				d := made(t, text("a", "x"), text("b", "y"))
				done(t, d.Append("a", []byte("1")))
				done(t, d.Append("b", []byte("2")))
				d.Off(n)
				if n == 2 {
					done(t, d.Append("a", nil))
				}
				if what == "Read" {
					d.Append("a", []byte("lost"))
				}
				want(t, what+" of "+name, named(d, name)[what](), api.ErrPower)
				want(t, what+" of "+name+" again", named(d, name)[what](), api.ErrPower)
				finds(t, d, []int{0, 0}, text("a", "x"), text("b", "y"))
				finds(t, d, []int{1, 1}, text("a", "x1"), text("b", "y2"))
			}
		}
	}
}

// TestOffFailed: P10.3: a call that is told another error counts towards the n-th, one with a wrong name does not.
func TestOffFailed(t *testing.T) {
	d := made(t, text("a", "x"))
	d.Off(5)
	want(t, "1", d.Cut("a", 2), api.ErrForm)
	want(t, "2", d.Sync("none"), api.ErrNone)
	want(t, "3", d.Append("a", make([]byte, api.MaxFile)), api.ErrLimit)
	for range 9 {
		want(t, "none", d.Sync("NONE"), api.ErrForm)
		reads(t, d, "a", "x")
	}
	want(t, "4", d.Remove("none"), api.ErrNone)
	lists(t, d, "a")
	want(t, "5", d.Remove("none"), api.ErrPower)
	want(t, "6", d.Remove("a"), api.ErrPower)
}

// TestOffAgain: P10.3: what an earlier Off has said holds behind a later one; power that is off does not come back.
func TestOffAgain(t *testing.T) {
	for _, c := range [][3]int{{3, 9, 3}, {9, 3, 3}, {2, 2, 2}, {0, 5, 0}, {5, 0, 0}, {-1, -1, 0}, {1, math.MaxInt, 1}, {math.MaxInt, 4, 4}, {math.MaxInt, math.MaxInt, 99}, {math.MinInt, 9, 0}} {
		d := made(t, text("a", "x"))
		done(t, d.Sync("a"))
		d.Off(c[0])
		d.Off(c[1])
		for k := 1; k < 12; k++ {
			n := api.Errno(0)
			if k >= c[2] {
				n = api.ErrPower
			}
			want(t, fmt.Sprintf("Off %d, call %d", c, k), d.Sync("a"), n)
		}
		d.Off(3)
		if c[2] < 12 {
			want(t, fmt.Sprintf("Off %d, then 3", c), d.Sync("a"), api.ErrPower)
		}
	}
}

// letters are n bytes, no two of them alike in one sector.
func letters(first byte, n int) string {
	b := make([]byte, n)
	for i := range b {
		b[i] = first + byte(i%api.Sector)
	}
	return string(b)
}

// tornOf is the chapter's, byte by byte: the first sectors are as seen, the others as safe.
func tornOf(safe, seen string, sectors int) string {
	at := func(s string, i int) byte {
		if i < len(s) {
			return s[i]
		}
		return 0
	}
	var whole []byte
	for i := range max(len(safe), len(seen)) {
		if i/32 < sectors {
			whole = append(whole, at(seen, i))
		} else {
			whole = append(whole, at(safe, i))
		}
	}
	return string(whole[:len(seen)])
}

// unlike is a disk with a file of these safe and seen bytes.
func unlike(t *testing.T, safe, seen string) *Disk {
	d := made(t, text("a", safe))
	done(t, d.Cut("a", 0))
	done(t, d.Append("a", []byte(seen)))
	return d
}

// TestCrashKinds: P10.4: picks of each kind, for files that are longer, shorter and as long as their safe bytes.
func TestCrashKinds(t *testing.T) {
	sizes := []int{0, 1, 31, 32, 33, 63, 64, 65, 96, 100}
	for _, m := range sizes {
		for _, n := range sizes {
			safe, seen := letters('a', m), letters('A', n)
			if safe == seen {
				continue
			}
			d := unlike(t, safe, seen)
			k := 0
			for k*32 < max(m, n) {
				k++
			}
			for q := -3 * (k + 2); q <= 3*(k+2); q++ {
				sectors := q
				for sectors < 0 {
					sectors += k + 1
				}
				for sectors > k {
					sectors -= k + 1
				}
				finds(t, d, []int{3 * q}, text("a", safe))
				finds(t, d, []int{3*q + 1}, text("a", seen))
				finds(t, d, []int{3*q + 2}, text("a", tornOf(safe, seen, sectors)))
			}
		}
	}
}

// TestCrashWritten: P10.4: torn files written down.
func TestCrashWritten(t *testing.T) {
	x, y := strings.Repeat("x", 40), strings.Repeat("y", 70)
	noughts := strings.Repeat("\x00", 30)
	for _, c := range []struct {
		safe, seen string
		pick       int
		found      string
	}{
		{x, y, 2, x + noughts},
		{x, y, 2 + 3, y[:32] + x[32:] + noughts},
		{x, y, 2 + 6, y[:64] + noughts[:6]},
		{x, y, 2 + 9, y},
		{x, y, 2 + 12, x + noughts},
		{x, y, -1, y},
		{x, y, -4, y[:64] + noughts[:6]},
		{x, y, -13, y},
		{y, x, 2, y[:40]},
		{y, x, 2 + 3, x[:32] + y[:8]},
		{y, x, 2 + 6, x},
		{y, x, 2 + 9, x},
		{y, x, 2 + 12, y[:40]},
		{y, x, -1, x},
		{y, x, -7, x[:32] + y[:8]},
		{y, "", 2, ""},
		{y, "", 5, ""},
		{"", x, 2, noughts + noughts[:10]},
		{"", x, 5, x[:32] + noughts[:8]},
		{"", x, 8, x},
		{"", "z", 2, "\x00"},
		{"", "z", 5, "z"},
		{"", "z", 8, "\x00"},
		{x, y, 0, x}, {x, y, 3, x}, {x, y, -3, x}, {x, y, 1, y}, {x, y, 4, y}, {x, y, -2, y}, {x, y, -5, y},
	} {
		finds(t, unlike(t, c.safe, c.seen), []int{c.pick}, text("a", c.found))
	}
}

// TestCrashGreat: P10.4: the least and the greatest picks, by what is left when they are divided.
func TestCrashGreat(t *testing.T) {
	safe, seen := letters('a', 70), letters('A', 70)
	d := unlike(t, safe, seen)
	// 2^63 - 1 is 3 times 3074457345618258602, and 1; -2^63 is 3 times -3074457345618258603, and 1.
	finds(t, d, []int{math.MaxInt}, text("a", seen))
	finds(t, d, []int{math.MinInt}, text("a", seen))
	finds(t, d, []int{math.MaxInt - 1}, text("a", safe))
	finds(t, d, []int{math.MinInt + 2}, text("a", safe))
	// (2^63 - 3) / 3 is 2 modulo 4, rounded down it is 3074457345618258601, 1 modulo 4.
	finds(t, d, []int{math.MaxInt - 2}, text("a", tornOf(safe, seen, 1)))
	// (-2^63 + 1) / 3 rounded down is -3074457345618258603, 1 modulo 4.
	finds(t, d, []int{math.MinInt + 1}, text("a", tornOf(safe, seen, 1)))
}

// TestCrashOrder: P10.4: files that are unlike take a pick each, by rising names; the others take none, and stay.
func TestCrashOrder(t *testing.T) {
	d := made(t, text("b", "1"), text("d", "2"), text("f", "3"), text("h", "4"))
	done(t, d.Append("h", []byte("+")))
	done(t, d.Append("d", []byte("+")))
	done(t, d.Append("c", nil))
	done(t, d.Append("a", []byte("+")))
	done(t, d.Append("f", []byte("+")))
	done(t, d.Cut("f", 1))
	done(t, d.Append("b", []byte("+")))
	done(t, d.Sync("b"))
	all := func(a, d, h string) []api.File {
		return []api.File{text("a", a), text("b", "1+"), text("c", ""), text("d", d), text("f", "3"), text("h", h)}
	}
	for _, c := range []struct {
		picks []int
		files []api.File
	}{
		{nil, all("", "2", "4")},
		{[]int{1}, all("+", "2", "4")},
		{[]int{0, 1}, all("", "2+", "4")},
		{[]int{0, 0, 1}, all("", "2", "4+")},
		{[]int{1, 1}, all("+", "2+", "4")},
		{[]int{1, 1, 1}, all("+", "2+", "4+")},
		{[]int{2, 1, 2}, all("\x00", "2+", "4\x00")},
		{[]int{1, 1, 1, 1, 1, 1, 1}, all("+", "2+", "4+")},
		{[]int{0, 0, 0, 1, 1, 1}, all("", "2", "4")},
		{[]int{5, 2, -1}, all("+", "2\x00", "4+")},
	} {
		finds(t, d, c.picks, c.files...)
	}
	// The disk is as it was.
	reads(t, d, "a", "+")
	lists(t, d, "a b c d f h")
	if d.Calls() != 8 {
		t.Errorf("%d calls", d.Calls())
	}
	d.Off(0)
	finds(t, d, []int{0, 1}, all("", "2+", "4")...)
	finds(t, made(t), []int{1, 2})
}

// TestCrashAgain: P10.4, P10.1: what is found makes a disk.
func TestCrashAgain(t *testing.T) {
	d := unlike(t, letters('a', 70), letters('A', 90))
	for _, pick := range []int{0, 1, 2, 5, 8} {
		found := d.Crash([]int{pick})
		finds(t, made(t, found...), []int{1, 1}, found...)
	}
}

// TestLasts: P10.5: what was synced, and neither cut nor appended to since, is in every crash, whatever befell the others.
func TestLasts(t *testing.T) {
	for seed := range 300 {
		r := rand.New(rand.NewSource(int64(seed)))
		d := made(t, text("keep", "old"))
		names := []string{"a", "b", "keep", "z"}
		for range r.Intn(20) {
			random(r, d, names)
		}
		d.Append("keep", []byte(letters('k', r.Intn(100))))
		d.Cut("keep", r.Intn(10))
		d.Append("keep", []byte(letters('K', r.Intn(100))))
		done(t, d.Sync("keep"))
		kept, _ := d.Read("keep")
		name := "keep"
		if r.Intn(2) == 0 {
			name = "moved"
			done(t, d.Rename("keep", name))
		}
		if r.Intn(3) == 0 {
			d.Off(r.Intn(10))
		}
		for range r.Intn(20) {
			random(r, d, []string{"a", "b", "z"})
			for range 5 {
				found := d.Crash(randomPicks(r))
				at := slices.IndexFunc(found, func(f api.File) bool { return f.Name == name })
				if at < 0 || !bytes.Equal(found[at].Data, kept) {
					t.Fatalf("seed %d: %s, want %s=%q", seed, brief(show(found)), name, kept)
				}
			}
		}
	}
}

func randomPicks(r *rand.Rand) []int {
	picks := make([]int, r.Intn(6))
	for i := range picks {
		picks[i] = r.Intn(41) - 20
	}
	return picks
}

// random does a call by chance.
func random(r *rand.Rand, d *Disk, names []string) {
	name := names[r.Intn(len(names))]
	switch r.Intn(6) {
	case 0, 1:
		d.Append(name, []byte(letters('a'+byte(r.Intn(20)), r.Intn(80))))
	case 2:
		d.Cut(name, r.Intn(60)-2)
	case 3:
		d.Sync(name)
	case 4:
		d.Rename(name, names[r.Intn(len(names))])
	case 5:
		d.Remove(name)
	}
}

// model is a disk by the chapter's words alone.
type model struct {
	safe, seen map[string]string
	calls, at  int // at: the call at which the power goes off
}

func (m *model) begin(names ...string) api.Errno {
	for _, s := range names {
		if s == "" || len(s) > 32 || strings.Trim(s, "abcdefghijklmnopqrstuvwxyz0123456789.-") != "" {
			return api.ErrForm
		}
	}
	m.calls++
	if m.calls >= m.at {
		return api.ErrPower
	}
	return 0
}

func (m *model) need(name string) api.Errno {
	if e := m.begin(name); e != 0 {
		return e
	}
	if _, there := m.seen[name]; !there {
		return api.ErrNone
	}
	return 0
}

func (m *model) append(name, b string) api.Errno {
	if e := m.begin(name); e != 0 {
		return e
	}
	_, there := m.seen[name]
	switch {
	case len(m.seen[name]+b) > api.MaxFile:
		return api.ErrLimit
	case !there && len(m.seen) >= api.MaxFiles:
		return api.ErrFull
	}
	m.seen[name] += b
	m.safe[name] += ""
	return 0
}

func (m *model) cut(name string, n int) api.Errno {
	if n < 0 {
		return api.ErrForm
	}
	e := m.need(name)
	if e == 0 && n > len(m.seen[name]) {
		return api.ErrForm
	}
	if e == 0 {
		m.seen[name] = m.seen[name][:n]
	}
	return e
}

func (m *model) sync(name string) api.Errno {
	e := m.need(name)
	if e == 0 {
		m.safe[name] = m.seen[name]
	}
	return e
}

func (m *model) remove(name string) api.Errno {
	e := m.need(name)
	if e == 0 {
		delete(m.safe, name)
		delete(m.seen, name)
	}
	return e
}

func (m *model) rename(from, to string) api.Errno {
	e := m.begin(from, to)
	if _, there := m.seen[from]; e == 0 && !there {
		return api.ErrNone
	}
	if e == 0 && from != to {
		m.safe[to], m.seen[to] = m.safe[from], m.seen[from]
		delete(m.safe, from)
		delete(m.seen, from)
	}
	return e
}

func (m *model) names() []string {
	return slices.Sorted(maps.Keys(m.seen))
}

func (m *model) crash(picks []int) (l []api.File) {
	for _, name := range m.names() {
		safe, seen, data := m.safe[name], m.seen[name], m.seen[name]
		if safe != seen {
			p := 0
			if len(picks) > 0 {
				p, picks = picks[0], picks[1:]
			}
			q := int(math.Floor(float64(p) / 3))
			k := int(math.Ceil(float64(max(len(safe), len(seen))) / 32))
			switch p - 3*q {
			case 0:
				data = safe
			case 2:
				data = tornOf(safe, seen, q-(k+1)*int(math.Floor(float64(q)/float64(k+1))))
			}
		}
		l = append(l, text(name, data))
	}
	return l
}

// TestModel: P10.1 to P10.4: runs by chance, held against the model behind each call.
func TestModel(t *testing.T) {
	names := []string{"a", "b", "c", "-", ".x", "A", ""}
	for i := range 16 {
		names = append(names, fmt.Sprint("n", i))
	}
	for seed := range 200 {
		r := rand.New(rand.NewSource(int64(seed)))
		few := names[:3+r.Intn(len(names)-2)]
		d, m := made(t), &model{map[string]string{}, map[string]string{}, 0, math.MaxInt}
		for step := range 120 {
			name := few[r.Intn(len(few))]
			what, e, n := both(r, d, m, name, few[r.Intn(len(few))])
			if number(t, what, e) != n {
				t.Fatalf("seed %d, step %d: %s: %v, want %d", seed, step, what, e, n)
			}
			if r.Intn(60) == 0 && m.at == math.MaxInt {
				off := r.Intn(12) - 2
				d.Off(off)
				m.at = m.calls + max(off, 0)
			}
			compare(t, fmt.Sprintf("seed %d, step %d: %s", seed, step, what), r, d, m, name)
		}
	}
}

// both does a call by chance to a disk and its model.
func both(r *rand.Rand, d *Disk, m *model, name, other string) (string, error, api.Errno) {
	switch r.Intn(7) {
	case 0, 1, 2:
		b := letters(byte('a'+r.Intn(20)), r.Intn(80))
		if r.Intn(300) == 0 {
			b = letters('x', api.MaxFile-r.Intn(80))
		}
		return "Append " + name, d.Append(name, []byte(b)), m.append(name, b)
	case 3:
		n := r.Intn(90) - 2
		return fmt.Sprint("Cut ", name, n), d.Cut(name, n), m.cut(name, n)
	case 4:
		return "Sync " + name, d.Sync(name), m.sync(name)
	case 5:
		return "Rename " + name + " " + other, d.Rename(name, other), m.rename(name, other)
	}
	return "Remove " + name, d.Remove(name), m.remove(name)
}

func compare(t *testing.T, what string, r *rand.Rand, d *Disk, m *model, name string) {
	t.Helper()
	picks := randomPicks(r)
	if got, files := d.Crash(picks), m.crash(picks); !same(got, files) {
		t.Fatalf("%s: crash of %d: %s, want %s", what, picks, brief(show(got)), brief(show(files)))
	}
	if d.Calls() != m.calls {
		t.Fatalf("%s: %d calls, want %d", what, d.Calls(), m.calls)
	}
	l, e := d.List()
	if m.calls >= m.at {
		want(t, what+": List", e, api.ErrPower)
		return
	}
	if e != nil || !slices.Equal(l, m.names()) {
		t.Fatalf("%s: List: %q, %v", what, l, e)
	}
	if data, there := m.seen[name]; there {
		reads(t, d, name, data)
	}
}

// TestHandedIn: R2: what is handed in is neither changed nor kept, spare room too.
func TestHandedIn(t *testing.T) {
	room := []byte("abcdefgh")
	files := []api.File{{Name: "a", Data: room[:3]}, {Name: "b", Data: room[3:5]}}
	d := made(t, files...)
	e := made(t, files...)
	done(t, d.Append("a", []byte("123")))
	done(t, d.Cut("b", 1))
	done(t, d.Append("b", []byte("!")))
	if string(room) != "abcdefgh" || files[0].Name != "a" || len(files[0].Data) != 3 || len(files[1].Data) != 2 {
		t.Errorf("files are changed: %q", room)
	}
	for i := range room {
		room[i] = '?'
	}
	files[0] = text("z", "z")
	reads(t, d, "a", "abc123")
	reads(t, d, "b", "d!")
	finds(t, d, nil, text("a", "abc"), text("b", "de"))
	// Objects have nothing in common.
	reads(t, e, "a", "abc")
	reads(t, e, "b", "de")
	if e.Calls() != 0 {
		t.Errorf("%d calls", e.Calls())
	}

	b := []byte("mnopqr")
	done(t, d.Append("new", b[:3]))
	done(t, d.Append("new", []byte("456")))
	done(t, d.Append("new", b[:2]))
	if string(b) != "mnopqr" {
		t.Errorf("bytes are changed: %q", b)
	}
	for i := range b {
		b[i] = '?'
	}
	reads(t, d, "new", "mno456mn")
}

// apart is a list that has nothing in common with l.
func apart(l []api.File) (own []api.File) {
	for _, f := range l {
		own = append(own, text(f.Name, string(f.Data)))
	}
	return own
}

// spoil writes over a list's bytes and its spare room.
func spoil(b []byte) {
	b = b[:cap(b)]
	for i := range b {
		b[i] = '?'
	}
}

// TestHandedOut: R2: what is handed out is not the disk's own, and no two lists are in common.
func TestHandedOut(t *testing.T) {
	d := made(t, text("a", "abcdef"), text("b", letters('a', 70)), text("c", "same"), text("d", letters('a', 70)))
	done(t, d.Cut("a", 3))
	done(t, d.Append("a", []byte("x")))
	done(t, d.Append("b", []byte(letters('A', 70))))
	done(t, d.Cut("d", 40))
	for _, picks := range [][]int{nil, {1, 1, 1}, {2, 5, 2}, {5, 8, 5}} {
		whole := d.Crash(picks)
		again := apart(whole)
		for i := range whole {
			spoil(whole[i].Data)
			spoil(append(whole[i].Data, "more"...))
			for j := i + 1; j < len(whole); j++ {
				if !bytes.Equal(whole[j].Data, again[j].Data) {
					t.Errorf("Crash of %d: %s and %s share bytes", picks, whole[i].Name, whole[j].Name)
				}
			}
		}
		clear(whole[:cap(whole)])
		if got := d.Crash(picks); !same(got, again) {
			t.Errorf("Crash of %d: %s behind writing, want %s", picks, brief(show(got)), brief(show(again)))
		}
	}
	for _, name := range []string{"a", "b", "c", "d"} {
		was := apart(d.Crash([]int{1, 1, 1, 1}))
		b, _ := d.Read(name)
		c := bytes.Clone(b)
		spoil(b)
		reads(t, d, name, string(c))
		spoil(append(b, "more"...))
		if !same(d.Crash([]int{1, 1, 1, 1}), was) {
			t.Errorf("Read of %s is the disk's own", name)
		}
		// A later append has not what was written into spare room.
		done(t, d.Append(name, []byte("+")))
		reads(t, d, name, string(was[slices.IndexFunc(was, func(f api.File) bool { return f.Name == name })].Data)+"+")
	}
	l, _ := d.List()
	l = l[:cap(l)]
	for i := range l {
		l[i] = "?"
	}
	lists(t, d, "a b c d")
}

// TestTold: R2: what was told stays as it is, whatever is done to the disk.
func TestTold(t *testing.T) {
	d := made(t, text("a", "abcdef"), text("b", "x"))
	done(t, d.Append("b", []byte("y")))
	read, _ := d.Read("a")
	names, _ := d.List()
	safe, seen := d.Crash(nil), d.Crash([]int{1})
	done(t, d.Cut("a", 0))
	done(t, d.Append("a", []byte("012345678")))
	done(t, d.Sync("a"))
	done(t, d.Cut("b", 0))
	done(t, d.Append("b", []byte("ZZ")))
	done(t, d.Sync("b"))
	done(t, d.Rename("b", "c"))
	done(t, d.Remove("a"))
	if string(read) != "abcdef" || strings.Join(names, " ") != "a b" || show(safe) != show([]api.File{text("a", "abcdef"), text("b", "x")}) || show(seen) != show([]api.File{text("a", "abcdef"), text("b", "xy")}) {
		t.Errorf("%q, %q, %s, %s", read, names, show(safe), show(seen))
	}
}

// TestBare: R1: a disk that New did not make is one without files.
func TestBare(t *testing.T) {
	var d Disk
	lists(t, &d, "")
	finds(t, &d, []int{1})
	want(t, "Sync", d.Sync("a"), api.ErrNone)
	done(t, d.Append("a", []byte("x")))
	reads(t, &d, "a", "x")
}
