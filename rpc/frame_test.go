package rpc

import (
	"bytes"
	"encoding/binary"
	"fmt"
	"hash/crc32"
	"math/rand"
	"slices"
	"strings"
	"testing"

	"dovecote/api"
)

// framed is b as the chapter frames it.
func framed(b []byte) []byte {
	f := binary.BigEndian.AppendUint32(nil, uint32(len(b)))
	f = binary.BigEndian.AppendUint32(f, crc32.ChecksumIEEE(b))
	return append(f, b...)
}

// inFrames: b begin with frames of these, and then comes what is told by that number.
func inFrames(t *testing.T, what string, b []byte, l [][]byte, n api.Errno) {
	t.Helper()
	got, size, e := Frames(b)
	want(t, what, e, n)
	if !slices.EqualFunc(got, l, bytes.Equal) {
		t.Errorf("%s: %d frames %.90x, want %d %.90x", what, len(got), got, len(l), l)
	}
	length := 0
	for _, one := range l {
		length += 8 + len(one)
	}
	if size != length {
		t.Errorf("%s: %d bytes, want %d", what, size, length)
	}
}

// texts are of some lengths, among them a frame and a message.
func texts() [][]byte {
	l := [][]byte{nil, {0}, {0xff}, []byte("a"), []byte("abc"), make([]byte, 8), framed([]byte("in a frame")), []byte(strings.Repeat("xyz", 90))}
	b, _ := Encode(plain(api.AskSnap))
	return append(l, b)
}

func joined(l [][]byte) (b []byte) {
	for _, one := range l {
		b = append(b, framed(one)...)
	}
	return b
}

// TestExample: the chapter's: P17.2.
func TestExample(t *testing.T) {
	for _, b := range [][]byte{nil, {}} {
		f, e := Frame(b)
		want(t, "Frame of nothing", e, 0)
		if string(f) != "\x00\x00\x00\x00\x00\x00\x00\x00" {
			t.Errorf("Frame of nothing: %x", f)
		}
	}
}

// TestFrame: its bytes: P17.2.
func TestFrame(t *testing.T) {
	f, e := Frame([]byte("123456789"))
	want(t, "Frame", e, 0)
	if string(f) != "\x00\x00\x00\x09\xcb\xf4\x39\x26123456789" {
		t.Errorf("Frame: %x", f)
	}
	r := rand.New(rand.NewSource(17))
	for _, n := range []int{0, 1, 2, 3, 255, 256, 257, 65535, 65536, 65537, mostFramed - 1, mostFramed} {
		for _, b := range [][]byte{make([]byte, n), bytes.Repeat([]byte{0xff}, n), make([]byte, n)} {
			if n > 0 && b[0] == 0 {
				r.Read(b[1:])
			}
			f, e := Frame(b)
			want(t, fmt.Sprint("Frame of ", n), e, 0)
			if !bytes.Equal(f, framed(b)) {
				t.Errorf("Frame of %d: %.20x", n, f)
			}
			inFrames(t, fmt.Sprint("a frame of ", n), f, [][]byte{b}, 0)
		}
	}
	for _, n := range []int{mostFramed + 1, mostFramed + 2, 2 * mostFramed, 1<<24 + 1} {
		f, e := Frame(make([]byte, n))
		want(t, fmt.Sprint("Frame of ", n), e, api.ErrLimit)
		if len(f) > 0 {
			t.Errorf("Frame of %d: %d bytes beside an error", n, len(f))
		}
	}
}

// TestFrames: one behind the other, and each beginning of a further one: P17.2, P17.3.
func TestFrames(t *testing.T) {
	inFrames(t, "nothing", nil, nil, 0)
	inFrames(t, "an empty list", []byte{}, nil, 0)
	all := texts()
	for n := range all {
		ahead := joined(all[:n])
		next := framed(all[n])
		for k := range next {
			b := append(bytes.Clone(ahead), next[:k]...)
			inFrames(t, fmt.Sprint(n, " frames and ", k, " bytes"), b, all[:n], 0)
		}
	}
	inFrames(t, "all", joined(all), all, 0)
	many := slices.Repeat([][]byte{nil, []byte("x")}, 5000)
	inFrames(t, "many", joined(many), many, 0)
	slices.Reverse(all)
	inFrames(t, "all turned round", joined(all), all, 0)
}

// TestFramesInPieces: whatever the pieces, the same frames come: P17.2, P17.3.
func TestFramesInPieces(t *testing.T) {
	r := rand.New(rand.NewSource(18))
	all := texts()
	for range 200 {
		rest := joined(all)
		var held []byte
		var got [][]byte
		for len(rest) > 0 {
			n := min(1+r.Intn(1+r.Intn(200)), len(rest))
			held = append(held, rest[:n]...)
			rest = rest[n:]
			l, size, e := Frames(held)
			want(t, "a piece", e, 0)
			got = append(got, l...)
			held = held[size:]
		}
		if !slices.EqualFunc(got, all, bytes.Equal) || len(held) > 0 {
			t.Fatalf("%d frames, %d bytes held", len(got), len(held))
		}
	}
}

// TestLongFrames: a length at the limit, and above it, whatever stands ahead of it and behind: P17.2.
func TestLongFrames(t *testing.T) {
	for n := range 4 {
		ahead := texts()[:n]
		for _, behind := range []string{"", "\x00", "\x00\x00\x00\x00", strings.Repeat("\x00", 100), string(framed([]byte("abc")))} {
			for _, length := range []string{"\x00\x20\x00\x01", "\x00\x20\x00\xff", "\x00\x20\x01\x00", "\x00\x21\x00\x00", "\x00\x40\x00\x00", "\x01\x00\x00\x00", "\x01\x00\x00\x01", "\x7f\xff\xff\xff", "\x80\x00\x00\x00", "\x80\x00\x00\x03", "\xff\xff\xff\xff"} {
				b := append(joined(ahead), length+behind...)
				inFrames(t, fmt.Sprintf("%d frames, then %x%x", n, length, behind), b, ahead, api.ErrForm)
			}
			for _, length := range []string{"\x00\x20\x00\x00", "\x00\x1f\xff\xff"} {
				b := append(joined(ahead), length+behind...)
				inFrames(t, fmt.Sprintf("%d frames, then %x%x", n, length, behind), b, ahead, 0)
			}
		}
		// What is not four bytes yet is no length.
		for _, some := range []string{"\xff", "\xff\xff", "\xff\xff\xff", "\x00\x20\x00", "\x01"} {
			inFrames(t, fmt.Sprintf("%d frames, then %x", n, some), append(joined(ahead), some...), ahead, 0)
		}
	}
	most := make([]byte, mostFramed)
	most[7] = 1
	f := framed(most)
	inFrames(t, "the longest, not whole", f[:len(f)-1], nil, 0)
	inFrames(t, "two of the longest", append(bytes.Clone(f), f...), [][]byte{most, most}, 0)
	f[5] ^= 1
	inFrames(t, "the longest with another sum, not whole", f[:len(f)-1], nil, 0)
	inFrames(t, "the longest with another sum", f, nil, api.ErrForm)
	// One byte longer, with the right sum.
	inFrames(t, "too long", framed(append(most, 0)), nil, api.ErrForm)
}

// TestOtherSum: a whole frame with another sum, and what is told beside its error: P17.2.
func TestOtherSum(t *testing.T) {
	all := texts()
	for n := range all {
		ahead := joined(all[:n])
		bad := framed(all[n])
		bad[4+n%4] ^= 0x10
		for k := range bad {
			inFrames(t, fmt.Sprint(n, " frames, then ", k, " bytes of another sum"), append(bytes.Clone(ahead), bad[:k]...), all[:n], 0)
		}
		for _, behind := range [][]byte{nil, {0}, {0xff, 0xff, 0xff, 0xff}, framed(nil), framed([]byte("good")), bad} {
			b := append(append(bytes.Clone(ahead), bad...), behind...)
			inFrames(t, fmt.Sprintf("%d frames, another sum, then %x", n, behind), b, all[:n], api.ErrForm)
		}
	}
	inFrames(t, "noughts of another sum", []byte{0, 0, 0, 0, 0, 0, 0, 1}, nil, api.ErrForm)
	inFrames(t, "the sum of bytes turned round", []byte{0, 0, 0, 1, 0x8d, 0xef, 0x02, 0xd2, 0}, nil, api.ErrForm)
	inFrames(t, "the sum with its highest byte first", []byte{0, 0, 0, 1, 0xd2, 0x02, 0xef, 0x8d, 0}, [][]byte{{0}}, 0)
}

// TestTurnedBits: each bit of a frame: it is found, or the frame waits: P17.3.
func TestTurnedBits(t *testing.T) {
	all := texts()
	for n := range all {
		ahead, f, behind := joined(all[:n]), framed(all[n]), joined(all[n+1:])
		for bit := range 8 * len(f) {
			x := bytes.Clone(f)
			x[bit/8] ^= 1 << (bit % 8)
			for _, b := range [][]byte{slices.Concat(ahead, x), slices.Concat(ahead, x, behind)} {
				l, size, _ := Frames(b)
				if !slices.EqualFunc(l, all[:n], bytes.Equal) || size != len(ahead) {
					t.Errorf("frame %d, bit %d: %d frames, %d bytes", n, bit, len(l), size)
				}
			}
			if bit >= 32 {
				inFrames(t, fmt.Sprint("frame ", n, ", bit ", bit), slices.Concat(ahead, x), all[:n], api.ErrForm)
			}
		}
	}
}

// TestAnyFrames: bytes of any kind: what is told are frames of them, and no more could be: P17.2.
func TestAnyFrames(t *testing.T) {
	r := rand.New(rand.NewSource(19))
	for range 50000 {
		b := make([]byte, r.Intn(40))
		for i := range b {
			b[i] = byte(r.Intn(4) * r.Intn(2))
		}
		if r.Intn(3) > 0 {
			b = append(joined(texts()[:r.Intn(6)]), b...)
		}
		l, size, e := Frames(b)
		if !bytes.Equal(joined(l), b[:size]) {
			t.Fatalf("%x: %x, %d", b, l, size)
		}
		var n api.Errno
		if rest := b[size:]; len(rest) >= 4 {
			length := int(binary.BigEndian.Uint32(rest))
			if length > mostFramed || len(rest) >= 8+length {
				n = api.ErrForm
			}
			if len(rest) >= 8+length && bytes.Equal(framed(rest[8:8+length]), rest[:8+length]) {
				t.Fatalf("%x: a frame at %d", b, size)
			}
		}
		want(t, fmt.Sprintf("%x", b), e, n)
	}
}

// TestMessagesInFrames: there and back by both: P17.3.
func TestMessagesInFrames(t *testing.T) {
	l := some()
	for _, kind := range kinds {
		l = append(l, fullest(kind))
	}
	var b []byte
	for _, m := range l {
		one, _ := Encode(m)
		f, e := Frame(one)
		want(t, show(m), e, 0)
		b = append(b, f...)
	}
	back, size, e := Frames(b)
	want(t, "all", e, 0)
	if len(back) != len(l) || size != len(b) {
		t.Fatalf("%d frames, %d bytes", len(back), size)
	}
	for i, one := range back {
		m, e := Decode(one)
		want(t, show(l[i]), e, 0)
		if !same(m, l[i]) {
			t.Errorf("%s: %s", show(l[i]), show(m))
		}
	}
}

// TestToldFrames: what is told of frames is new memory: R2.
func TestToldFrames(t *testing.T) {
	all := texts()
	b := joined(all)
	for _, bad := range []string{"", "\xff\xff\xff\xff"} {
		given := append(bytes.Clone(b), bad...)
		first, _, _ := Frames(given)
		second, _, _ := Frames(given)
		for i := range first {
			// All of one is written over, its spare room too: of the others none changes.
			one := first[i][:cap(first[i])]
			for k := range one {
				one[k] = 0xa5
			}
			if !slices.EqualFunc(first[i+1:], all[i+1:], bytes.Equal) || !bytes.HasPrefix(given, b) {
				t.Fatalf("frame %d shares memory", i)
			}
		}
		clear(given)
		if !slices.EqualFunc(second, all, bytes.Equal) {
			t.Error("frames share memory with what was handed in, or with others")
		}
	}
	in := []byte("abc")
	f, _ := Frame(in)
	g, _ := Frame(in)
	in[0] = 'x'
	clear(f[:cap(f)])
	if !bytes.Equal(g, framed([]byte("abc"))) || string(in) != "xbc" {
		t.Errorf("%x, %q", g, in)
	}
}
