package varint

import (
	"bytes"
	"errors"
	"math"
	"testing"

	"dovecote/api"
)

// encoded: each length's ends, their neighbours, and some ordinary numbers.
var encoded = []struct {
	n int
	b []byte
}{
	{0, []byte{0x00}},
	{1, []byte{0x01}},
	{42, []byte{0x2a}},
	{126, []byte{0x7e}},
	{127, []byte{0x7f}},
	{128, []byte{0x80, 0x01}},
	{129, []byte{0x81, 0x01}},
	{256, []byte{0x80, 0x02}},
	{321, []byte{0xc1, 0x02}},
	{16382, []byte{0xfe, 0x7f}},
	{16383, []byte{0xff, 0x7f}},
	{16384, []byte{0x80, 0x80, 0x01}},
	{16385, []byte{0x81, 0x80, 0x01}},
	{1000000, []byte{0xc0, 0x84, 0x3d}},
	{2097150, []byte{0xfe, 0xff, 0x7f}},
	{2097151, []byte{0xff, 0xff, 0x7f}},
	{2097152, []byte{0x80, 0x80, 0x80, 0x01}},
	{2097153, []byte{0x81, 0x80, 0x80, 0x01}},
	{0x8080808, []byte{0x88, 0x90, 0xa0, 0x40}},
	{api.MaxVar - 1, []byte{0xfe, 0xff, 0xff, 0x7f}},
	{api.MaxVar, []byte{0xff, 0xff, 0xff, 0x7f}},
}

func wantErrno(t *testing.T, what any, e error, want api.Errno) {
	t.Helper()
	var n api.Errno
	if !errors.As(e, &n) || n != want {
		t.Errorf("%x: error %v, want %v", what, e, want)
	}
	var f *api.Fault
	if !errors.As(e, &f) || f.Layer != "varint" {
		t.Errorf("%x: error %v does not tell its layer", what, e)
	}
}

func TestPutTellsGroupsLowestFirst(t *testing.T) { // P1.1
	for _, c := range encoded {
		b, e := Put(c.n)
		if e != nil || !bytes.Equal(b, c.b) {
			t.Errorf("Put(%d) = %x, %v; want %x", c.n, b, e, c.b)
		}
	}
}

func TestPutRefusesWhatIsOutside(t *testing.T) { // P1.1
	for _, n := range []int{-1, -2, -128, -api.MaxVar, math.MinInt32, math.MinInt, api.MaxVar + 1, api.MaxVar + 2, 1 << 28, 1 << 31, 1 << 32, 1<<32 + 5, 1 << 35, math.MaxInt} {
		b, e := Put(n)
		wantErrno(t, n, e, api.ErrForm)
		if len(b) != 0 {
			t.Errorf("Put(%d) tells %x beside its error", n, b)
		}
	}
}

func TestGetTellsNumberAndSize(t *testing.T) { // P1.2
	for _, c := range encoded {
		n, size, e := Get(c.b)
		if n != c.n || size != len(c.b) || e != nil {
			t.Errorf("Get(%x) = %d, %d, %v; want %d, %d", c.b, n, size, e, c.n, len(c.b))
		}
	}
}

func wantRefused(t *testing.T, b []byte, want api.Errno) {
	t.Helper()
	n, size, e := Get(b)
	wantErrno(t, b, e, want)
	if n != 0 || size != 0 {
		t.Errorf("Get(%x) tells %d, %d beside its error", b, n, size)
	}
}

func TestGetRefusesBytesThatEndTooEarly(t *testing.T) { // P1.2
	wantRefused(t, nil, api.ErrShort)
	for _, c := range encoded {
		for k := range c.b {
			wantRefused(t, c.b[:k], api.ErrShort)
		}
	}
	for _, b := range [][]byte{{0x80}, {0xff}, {0x80, 0x80}, {0xff, 0x80}, {0x80, 0x80, 0x80}, {0xff, 0xff, 0xff}} {
		wantRefused(t, b, api.ErrShort)
	}
}

func TestGetRefusesFourthByteThatGoesOn(t *testing.T) { // P1.2
	for _, b := range [][]byte{
		{0x80, 0x80, 0x80, 0x80},
		{0xff, 0xff, 0xff, 0xff},
		{0x81, 0x81, 0x81, 0x81},
		{0x80, 0x80, 0x80, 0x80, 0x01},
		{0xff, 0xff, 0xff, 0xff, 0x7f},
		{0x80, 0x80, 0x80, 0x80, 0x00},
	} {
		wantRefused(t, b, api.ErrForm)
	}
}

func TestGetRefusesMoreBytesThanPuts(t *testing.T) { // P1.2
	for _, b := range [][]byte{
		{0x80, 0x00},
		{0xff, 0x00},
		{0x80, 0x80, 0x00},
		{0xff, 0x80, 0x00},
		{0xff, 0xff, 0x00},
		{0x80, 0x80, 0x80, 0x00},
		{0xff, 0xff, 0xff, 0x00},
		{0x80, 0x00, 0x01},
		{0x81, 0x80, 0x00, 0x80, 0x01},
	} {
		wantRefused(t, b, api.ErrForm)
	}
}

func checkUndone(t *testing.T, n int) {
	t.Helper()
	b, e := Put(n)
	if e != nil {
		t.Fatalf("Put(%d): %v", n, e)
	}
	for _, behind := range [][]byte{nil, {0x00}, {0x01}, {0x7f}, {0x80}, {0xff, 0xff, 0xff, 0xff, 0xff}} {
		got, size, e := Get(append(bytes.Clone(b), behind...))
		if got != n || size != len(b) || e != nil {
			t.Fatalf("Get(Put(%d), %x) = %d, %d, %v", n, behind, got, size, e)
		}
	}
}

func TestGetUndoesPut(t *testing.T) { // P1.3
	for _, c := range encoded {
		checkUndone(t, c.n)
	}
	for n := range 1 << 15 {
		checkUndone(t, n)
	}
	for n := 0; n <= api.MaxVar; n += 9973 {
		checkUndone(t, n)
	}
}

// TestPutUndoesGet goes through all strings of up to five bytes of an alphabet with every kind of byte.
func TestPutUndoesGet(t *testing.T) { // P1.3
	var walk func(b []byte)
	walk = func(b []byte) {
		checkRedone(t, b)
		if len(b) == 5 {
			return
		}
		for _, c := range []byte{0x00, 0x01, 0x40, 0x7f, 0x80, 0x81, 0xc0, 0xff} {
			walk(append(bytes.Clone(b), c))
		}
	}
	walk(nil)
}

func checkRedone(t *testing.T, b []byte) {
	t.Helper()
	n, size, e := Get(b)
	if want := expect(b); want != 0 {
		wantRefused(t, b, want)
		return
	}
	if e != nil {
		t.Fatalf("Get(%x): %v", b, e)
	}
	again, e := Put(n)
	if e != nil || size > len(b) || !bytes.Equal(again, b[:size]) {
		t.Fatalf("Get(%x) = %d, %d; Put tells %x, %v", b, n, size, again, e)
	}
}

// expect tells, by the words of the chapter, what error Get has for b; 0: none.
func expect(b []byte) api.Errno {
	going := 0
	for going < len(b) && b[going] >= 0x80 {
		going++
	}
	switch {
	case going >= 4:
		return api.ErrForm
	case going == len(b):
		return api.ErrShort
	case going > 0 && b[going] == 0:
		return api.ErrForm
	}
	return 0
}

func TestMemoryIsNew(t *testing.T) { // R2
	for _, c := range encoded {
		first, _ := Put(c.n)
		for i := range first {
			first[i] ^= 0xff
		}
		_ = append(first[:0], 9, 9, 9, 9, 9)
		if second, e := Put(c.n); e != nil || !bytes.Equal(second, c.b) {
			t.Errorf("Put(%d) = %x, %v behind a change of what it told", c.n, second, e)
		}
		given := bytes.Clone(c.b)
		Get(given)
		if !bytes.Equal(given, c.b) {
			t.Errorf("Get changed %x to %x", c.b, given)
		}
	}
}
