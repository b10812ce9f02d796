package text

import (
	"bytes"
	"errors"
	"strings"
	"testing"
	"unicode/utf8"

	"dovecote/api"
)

// good: ordinary texts, and the first and the last code point of each length.
var good = []string{
	"", "a", "ab", "a/b/+", "dovecote",
	"\x01", "\x7f",
	"\u0080", "\u07ff",
	"\u0800", "\ud7ff", "\ue000", "\uffff", "\ufffd", "\ufeff",
	"\U00010000", "\U0010ffff", "\U000fffff",
	"é€𐍈", "a\u0080\u0800\U00010000z", "\U0010ffff\uffff\u07ff\x7f",
}

// bad: what no text may hold.
var bad = []string{
	"\x00", "a\x00", "\x00a",
	// by more bytes than need be: each length's last one that fits into a shorter length, and the first
	"\xc0\x80", "\xc0\x81", "\xc1\xbf",
	"\xe0\x80\x80", "\xe0\x80\xbf", "\xe0\x9f\xbf",
	"\xf0\x80\x80\x80", "\xf0\x8f\xbf\xbf", "\xf0\x80\x81\x81",
	// from 0xd800 to 0xdfff
	"\xed\xa0\x80", "\xed\xaf\xbf", "\xed\xb0\x80", "\xed\xbf\xbf", "\xed\xa0\x80\xed\xb0\x80",
	// above 0x10ffff
	"\xf4\x90\x80\x80", "\xf4\xbf\xbf\xbf", "\xf5\x80\x80\x80", "\xf7\xbf\xbf\xbf",
	// bytes that begin none
	"\x80", "\xbf", "a\x80b", "\xf8\x90\x80\x80", "\xff\x90\x80\x80", "\xf8\x88\x80\x80\x80", "\xfb\xbf\xbf\xbf\xbf", "\xfc\x84\x80\x80\x80\x80", "\xfe", "\xff",
	// cut off, at the end and by another code point
	"\xc2", "\xc2a", "\xdf\xc3\xa9",
	"\xe2", "\xe2\x82", "\xe2\x82a", "\xe2a\x82", "\xef\xbf\xe2\x82\xac",
	"\xf0", "\xf0\x90", "\xf0\x90\x8d", "\xf0\x90\x8da", "\xf0a\x8d\x88", "\xf0\x90a\x88", "\xf0\xff\xbf\xbf",
	"ab\xe2\x82", "é\xa9",
}

func wantErrno(t *testing.T, what string, e error, want api.Errno) {
	t.Helper()
	if len(what) > 20 {
		what = what[:20] + ".."
	}
	var n api.Errno
	if !errors.As(e, &n) || n != want {
		t.Errorf("%q: error %v, want %v", what, e, want)
	}
	var f *api.Fault
	if !errors.As(e, &f) || f.Layer != "text" {
		t.Errorf("%q: error %v does not tell its layer", what, e)
	}
}

func lengthy(s string) []byte {
	return append([]byte{byte(len(s) >> 8), byte(len(s))}, s...)
}

// fill tells a text of exactly n bytes: s over and over, then letters.
func fill(s string, n int) string {
	t := strings.Repeat(s, n/len(s))
	return t + strings.Repeat("x", n-len(t))
}

func TestCheckTakesTexts(t *testing.T) { // P2.1
	for _, s := range append([]string{fill("x", api.MaxText), fill("€", api.MaxText), fill("𐍈", api.MaxText)}, good...) {
		if e := Check(s); e != nil {
			t.Errorf("Check(%.20q) = %v", s, e)
		}
	}
}

func TestCheckRefusesWhatIsNoText(t *testing.T) { // P2.1
	for _, s := range bad {
		wantErrno(t, s, Check(s), api.ErrForm)
		wantErrno(t, s, Check("ok"+s), api.ErrForm)
		wantErrno(t, s, Check(s+"é"), api.ErrForm)
	}
}

func TestCheckRefusesWhatIsTooLong(t *testing.T) { // P2.1
	for _, s := range []string{fill("x", api.MaxText+1), fill("€", api.MaxText+1), fill("x", 2*api.MaxText)} {
		wantErrno(t, s, Check(s), api.ErrLimit)
	}
}

func TestCheckTellsFormAheadOfLimit(t *testing.T) { // P2.1
	for _, s := range bad {
		wantErrno(t, s, Check(fill("x", api.MaxText+1)+s), api.ErrForm)
		wantErrno(t, s, Check(s+fill("x", api.MaxText+1)), api.ErrForm)
		wantErrno(t, s, Check(fill("x", api.MaxText)+s), api.ErrForm)
	}
	// A code point that the limit would cut is whole all the same: no ErrForm.
	cut := fill("x", api.MaxText-1) + "é"
	wantErrno(t, cut, Check(cut), api.ErrLimit)
}

// TestCheckOfEachPoint: every code point, told by each number of bytes that has room for it.
func TestCheckOfEachPoint(t *testing.T) { // P2.1
	for p := rune(0); p < 1<<21; p++ {
		fits := utf8.RuneLen(p) // -1 where there is none
		for size := 1; size <= 4; size++ {
			s, ok := told(p, size)
			if !ok {
				continue
			}
			if want := p != 0 && size == fits; (Check(s) == nil) != want {
				t.Fatalf("Check(%q) = %v; %#x by %d bytes", s, Check(s), p, size)
			}
		}
	}
}

// told tells p by size bytes, if these have room for it.
func told(p rune, size int) (string, bool) {
	if size == 1 {
		return string([]byte{byte(p)}), p < 0x80
	}
	b := make([]byte, size)
	for i := size - 1; i > 0; i-- {
		b[i] = 0x80 | byte(p&0x3f)
		p >>= 6
	}
	b[0] = byte(0xff)<<(8-size) | byte(p)
	return string(b), p < 1<<(7-size)
}

// TestCheckOfShortBytes goes through all strings of up to four bytes of an alphabet with every kind of byte.
func TestCheckOfShortBytes(t *testing.T) { // P2.1
	alphabet := "\x00\x01\x7f\x80\x8f\x90\x9f\xa0\xbf\xc1\xc2\xe0\xed\xef\xf0\xf4\xf5\xff"
	var walk func(s string)
	walk = func(s string) {
		want := utf8.ValidString(s) && !strings.Contains(s, "\x00")
		if (Check(s) == nil) != want {
			t.Fatalf("Check(%q) = %v", s, Check(s))
		}
		if len(s) == 4 {
			return
		}
		for i := range len(alphabet) {
			walk(s + alphabet[i:i+1])
		}
	}
	walk("")
}

func TestPutTellsLengthThenText(t *testing.T) { // P2.1
	for _, c := range []struct {
		s string
		b []byte
	}{
		{"", []byte{0, 0}},
		{"ab", []byte{0, 2, 'a', 'b'}},
		{"é", []byte{0, 2, 0xc3, 0xa9}},
		{strings.Repeat("z", 258), append([]byte{1, 2}, strings.Repeat("z", 258)...)},
		{fill("x", api.MaxText), append([]byte{0xff, 0xff}, fill("x", api.MaxText)...)},
	} {
		b, e := Put(c.s)
		if e != nil || !bytes.Equal(b, c.b) {
			t.Errorf("Put(%.20q) = %.20x, %v", c.s, b, e)
		}
		b, e = PutBin(c.s)
		if e != nil || !bytes.Equal(b, c.b) {
			t.Errorf("PutBin(%.20q) = %.20x, %v", c.s, b, e)
		}
	}
}

func TestPutHasChecksErrors(t *testing.T) { // P2.1
	long := fill("x", api.MaxText+1)
	for _, c := range []struct {
		s string
		e api.Errno
	}{{long, api.ErrLimit}, {long + "\x00", api.ErrForm}, {"\xff" + long, api.ErrForm}} {
		b, e := Put(c.s)
		wantErrno(t, c.s, e, c.e)
		if len(b) != 0 {
			t.Errorf("Put(%.20q) tells %.20x beside its error", c.s, b)
		}
	}
	for _, s := range bad {
		b, e := Put(s)
		wantErrno(t, s, e, api.ErrForm)
		if len(b) != 0 {
			t.Errorf("Put(%q) tells %x beside its error", s, b)
		}
	}
}

func TestPutBinTakesAnyBytes(t *testing.T) { // P2.1
	all := make([]byte, 256)
	for i := range all {
		all[i] = byte(i)
	}
	for _, s := range append([]string{string(all), fill("\x00", api.MaxText), fill("\xff", api.MaxText)}, bad...) {
		b, e := PutBin(s)
		if e != nil || !bytes.Equal(b, lengthy(s)) {
			t.Errorf("PutBin(%.20q) = %.20x, %v", s, b, e)
		}
	}
}

func TestPutBinHasLimitAlone(t *testing.T) { // P2.1
	for _, s := range []string{fill("x", api.MaxText+1), fill("\xff", api.MaxText+1), fill("\x00", 3*api.MaxText)} {
		b, e := PutBin(s)
		wantErrno(t, s, e, api.ErrLimit)
		if len(b) != 0 {
			t.Errorf("PutBin(%.20q) tells %.20x beside its error", s, b)
		}
	}
}

func wantGot(t *testing.T, get func([]byte) (string, int, error), s, behind string) {
	t.Helper()
	got, size, e := get(append(lengthy(s), behind...))
	if got != s || size != len(s)+2 || e != nil {
		t.Errorf("%.20q with %q behind: %.20q, %d, %v", s, behind, got, size, e)
	}
}

func wantRefused(t *testing.T, get func([]byte) (string, int, error), b []byte, want api.Errno) {
	t.Helper()
	s, size, e := get(b)
	wantErrno(t, string(b), e, want)
	if s != "" || size != 0 {
		t.Errorf("%.20x: tells %.20q, %d beside its error", b, s, size)
	}
}

var behinds = []string{"", "\x00", "x", "\xff\xff", "\x00\x02ab", "\x80\x80\x80\x80"}

func TestGetTellsTextAndSize(t *testing.T) { // P2.2
	for _, s := range append([]string{fill("x", api.MaxText), strings.Repeat("y", 256), strings.Repeat("y", 255)}, good...) {
		for _, behind := range behinds {
			wantGot(t, Get, s, behind)
			wantGot(t, GetBin, s, behind)
		}
	}
}

func TestGetRefusesBytesThatEndTooEarly(t *testing.T) { // P2.2
	wantRefused(t, Get, nil, api.ErrShort)
	wantRefused(t, GetBin, nil, api.ErrShort)
	for _, s := range append(append([]string{strings.Repeat("y", 300)}, good...), bad...) {
		b := lengthy(s)
		for k := range b {
			wantRefused(t, Get, b[:k], api.ErrShort)
			wantRefused(t, GetBin, b[:k], api.ErrShort)
		}
	}
	full := lengthy(fill("x", api.MaxText))
	for _, k := range []int{0, 1, 2, 3, 256, api.MaxText, api.MaxText + 1} {
		wantRefused(t, Get, full[:k], api.ErrShort)
		wantRefused(t, GetBin, full[:k], api.ErrShort)
	}
}

func TestGetTellsShortAheadOfForm(t *testing.T) { // P2.2
	for _, s := range bad {
		b := lengthy(s + "x")
		wantRefused(t, Get, b[:len(b)-1], api.ErrShort)
	}
}

func TestGetRefusesWhatIsNoText(t *testing.T) { // P2.2
	for _, s := range bad {
		for _, behind := range behinds {
			wantRefused(t, Get, append(lengthy(s), behind...), api.ErrForm)
		}
	}
	// What stands behind does not make a cut-off code point whole.
	wantRefused(t, Get, []byte{0, 1, 0xc3, 0xa9}, api.ErrForm)
	full := fill("x", api.MaxText-1) + "\x00"
	wantRefused(t, Get, lengthy(full), api.ErrForm)
}

func TestGetBinTakesAnyBytes(t *testing.T) { // P2.2
	for _, s := range append([]string{fill("\x00", api.MaxText), fill("\xff", api.MaxText)}, bad...) {
		for _, behind := range behinds {
			wantGot(t, GetBin, s, behind)
		}
	}
}

func TestTheyUndoEachOther(t *testing.T) { // P2.3
	long := fill("é", api.MaxText)
	for n := 0; n <= api.MaxText; n += 1 + n/7 {
		s := long[:n-n%2]
		for _, behind := range behinds {
			checkUndone(t, s, behind)
		}
	}
	for _, s := range append(append([]string{long}, good...), bad...) {
		for _, behind := range behinds {
			checkUndone(t, s, behind)
		}
	}
}

func checkUndone(t *testing.T, s, behind string) {
	t.Helper()
	if b, e := PutBin(s); e == nil {
		got, size, e := GetBin(append(b, behind...))
		if got != s || size != len(s)+2 || e != nil {
			t.Errorf("GetBin(PutBin(%.20q), %q) = %.20q, %d, %v", s, behind, got, size, e)
		}
	} else {
		t.Errorf("PutBin(%.20q): %v", s, e)
	}
	if b, e := Put(s); e == nil {
		got, size, e := Get(append(b, behind...))
		if got != s || size != len(s)+2 || e != nil {
			t.Errorf("Get(Put(%.20q), %q) = %.20q, %d, %v", s, behind, got, size, e)
		}
	}
}

// TestPutUndoesGet goes through all strings of up to six bytes of a small alphabet.
func TestPutUndoesGet(t *testing.T) { // P2.3
	var walk func(b []byte)
	walk = func(b []byte) {
		checkRedone(t, b, Get, Put)
		checkRedone(t, b, GetBin, PutBin)
		if len(b) == 6 {
			return
		}
		for _, c := range []byte{0x00, 0x01, 0x02, 0x03, 0x41, 0x82, 0xc3, 0xe2} {
			walk(append(bytes.Clone(b), c))
		}
	}
	walk(nil)
}

func checkRedone(t *testing.T, b []byte, get func([]byte) (string, int, error), put func(string) ([]byte, error)) {
	t.Helper()
	s, size, e := get(b)
	if e != nil {
		return
	}
	again, e := put(s)
	if e != nil || size > len(b) || !bytes.Equal(again, b[:size]) {
		t.Fatalf("%x: %q, %d; told again %x, %v", b, s, size, again, e)
	}
}

func TestMemoryIsNew(t *testing.T) { // R2
	for _, put := range []func(string) ([]byte, error){Put, PutBin} {
		first, _ := put("abc")
		clear(first[:cap(first)])
		if second, e := put("abc"); e != nil || string(second) != "\x00\x03abc" {
			t.Errorf("%x, %v behind a change of what was told", second, e)
		}
	}
	for _, get := range []func([]byte) (string, int, error){Get, GetBin} {
		given := []byte("\x00\x03abcd")
		s, _, _ := get(given)
		if string(given) != "\x00\x03abcd" {
			t.Errorf("what was handed in is %x", given)
		}
		clear(given)
		if s != "abc" {
			t.Errorf("what was told turned into %q", s)
		}
	}
}
