package stream

import (
	"errors"
	"fmt"
	"math"
	"math/rand"
	"reflect"
	"slices"
	"strings"
	"testing"

	"dovecote/api"
	"dovecote/packet"
)

const (
	ping    = "\xc0\x00"
	ack     = "\x40\x02\x00\x05"
	publish = "\x33\x0d\x00\x01t\x00\x07\x03\x23\x00\x05load"
	ask     = "\x82\x0d\x00\x01\x00\x00\x03a/#\x06\x00\x01b\x18"
	bye     = "\xe0\x01\x04"
)

// those: packets, and their bytes.
var those = []struct {
	b string
	p api.Packet
}{
	{ping, api.Packet{Kind: api.Pingreq}},
	{ack, api.Packet{Kind: api.Puback, ID: 5}},
	{publish, api.Packet{Kind: api.Publish, Topic: "t", QoS: 1, Retain: true, ID: 7, Props: []api.Prop{{ID: 0x23, Num: 5}}, Payload: "load"}},
	{ask, api.Packet{Kind: api.Subscribe, ID: 1, Subs: []api.Sub{{Filter: "a/#", QoS: 2, NoLocal: true}, {Filter: "b", AsPub: true, Handling: 1}}}},
	{bye, api.Packet{Kind: api.Disconnect, Code: 4}},
}

// bad: bytes that no packet begins with under the limit; none of them can be left out.
var bad = []struct {
	limit int
	b     string
	want  api.Errno
}{
	// The first byte.
	{100, "\x00", api.ErrForm},
	{100, "\x0f", api.ErrForm},
	{100, "\xc1", api.ErrForm},
	{100, "\x36", api.ErrForm},
	{100, "\x38", api.ErrForm},
	{100, "\x60", api.ErrForm},
	{2, "\xff", api.ErrForm},
	// The length.
	{100, "\xc0\x80\x00", api.ErrForm},
	{100, "\x30\x83\x00", api.ErrForm},
	{100, "\x30\xff\x00", api.ErrForm},
	{100, "\x30\xff\xff\x00", api.ErrForm},
	{100, "\x30\xff\xff\xff\x00", api.ErrForm},
	{100, "\x30\x80\x80\x80\x80", api.ErrForm},
	{100, "\x30\xff\xff\xff\xff", api.ErrForm},
	{2, "\x30\x80\x00", api.ErrForm},
	{2, "\x30\x81\x00", api.ErrForm},
	{2, "\x30\x81\x80\x80\x00", api.ErrForm},
	{2, "\x30\x81\x80\x80\x80", api.ErrForm},
	{3, "\x30\x81\x80\x00", api.ErrForm},
	{math.MaxInt, "\x30\xff\xff\xff\x00", api.ErrForm},
	// More than the limit: known with the last byte of the length.
	{2, "\xc0\x01", api.ErrLimit},
	{2, "\x40\x02", api.ErrLimit},
	{2, "\x30\x80\x01", api.ErrLimit},
	{2, "\x30\x80\x80\x01", api.ErrLimit},
	{2, "\x30\x80\x80\x80\x01", api.ErrLimit},
	{3, "\x40\x02", api.ErrLimit},
	{3, "\x30\x80\x80\x80\x01", api.ErrLimit},
	{100, "\x30\x63", api.ErrLimit},
	{100, "\x30\x7f", api.ErrLimit},
	{128, "\x30\x7f", api.ErrLimit},
	{130, "\x30\x80\x01", api.ErrLimit},
	{16385, "\x30\xff\x7f", api.ErrLimit},
	{16387, "\x30\x80\x80\x01", api.ErrLimit},
	{100, "\x30\xff\xff\xff\x7f", api.ErrLimit},
	{api.MaxPacket - 1, "\x30\xfc\xff\x03", api.ErrLimit},
	{api.MaxPacket, "\x30\xfd\xff\x03", api.ErrLimit},
	{api.MaxPacket + 1, "\x30\xfd\xff\x03", api.ErrLimit},
	{math.MaxInt, "\x30\xfd\xff\x03", api.ErrLimit},
	{math.MaxInt, "\x30\x80\x80\x04", api.ErrLimit},
	{math.MaxInt, "\x30\xff\xff\xff\x7f", api.ErrLimit},
	// The body: known with its last byte.
	{100, "\x40\x00", api.ErrForm},
	{100, "\xc0\x01\x00", api.ErrForm},
	{100, "\x40\x02\x00\x00", api.ErrForm},
	{4, "\x40\x02\x00\x00", api.ErrForm},
	{100, "\x30\x03\x00\x02a", api.ErrForm},
	{100, "\x20\x03\x02\x00\x00", api.ErrForm},
	{100, "\x30\x05\x00\x01\xff\x00z", api.ErrForm},
}

// all: the bytes of those packets, one behind the other.
func all() (b string, l []api.Packet) {
	for _, c := range those {
		b += c.b
		l = append(l, c.p)
	}
	return b, l
}

// sized is a packet of n bytes, or of as few more as may be, and its bytes.
func sized(t *testing.T, n int) (api.Packet, string) {
	t.Helper()
	for payload := max(0, n-9); payload < n; payload++ {
		p := api.Packet{Kind: api.Publish, Payload: strings.Repeat("p", payload)}
		if b, e := packet.Encode(p); e == nil && len(b) >= n {
			return p, string(b)
		}
	}
	t.Fatalf("no packet of %d bytes", n)
	return api.Packet{}, ""
}

// groups tells the bytes of a length.
func groups(n int) string {
	var b []byte
	for ; n >= 128; n >>= 7 {
		b = append(b, byte(n&127|128))
	}
	return string(append(b, byte(n)))
}

func bare[T any](l []T) []T {
	if len(l) == 0 {
		return nil
	}
	return l
}

// plainly: nil lists and empty ones are one.
func plainly(p api.Packet) api.Packet {
	p.Props, p.Wills, p.User, p.Pass = bare(p.Props), bare(p.Wills), bare(p.User), bare(p.Pass)
	p.Subs, p.Filters, p.Codes = bare(p.Subs), bare(p.Filters), bare(p.Codes)
	return p
}

func same(l, m []api.Packet) bool {
	return slices.EqualFunc(l, m, func(p, q api.Packet) bool {
		return reflect.DeepEqual(plainly(p), plainly(q))
	})
}

func show(what any) string { return fmt.Sprintf("%.200q", fmt.Sprintf("%+v", what)) }

// wantErrno: 0 is no error.
func wantErrno(t *testing.T, what any, e error, want api.Errno) {
	t.Helper()
	if want == 0 {
		if e != nil {
			t.Errorf("%s: error %v, want none", show(what), e)
		}
		return
	}
	var n api.Errno
	if !errors.As(e, &n) || n != want {
		t.Errorf("%s: error %v, want %v", show(what), e, want)
	}
	var f *api.Fault
	if !errors.As(e, &f) || f.Layer != "stream" {
		t.Errorf("%s: error %v does not tell its layer", show(what), e)
	}
}

// wantFeed: the piece b tells the packets l and the error want, and leaves held bytes.
func wantFeed(t *testing.T, what any, s *Stream, b string, l []api.Packet, want api.Errno, held int) {
	t.Helper()
	got, e := s.Feed([]byte(b))
	if !same(got, l) {
		t.Errorf("%s: %.40x tells %s, want %s", show(what), b, show(got), show(l))
	}
	wantErrno(t, what, e, want)
	if n := s.Held(); n != held {
		t.Errorf("%s: behind %.40x %d bytes wait, want %d", show(what), b, n, held)
	}
}

// wantEnded: the error is told again and again, and nothing else.
func wantEnded(t *testing.T, what any, s *Stream, want api.Errno) {
	t.Helper()
	for _, b := range []string{ping, "", ack + ping, "\xc1", "\x30\xff\xff\xff\x7f", "\xc0", "\x00"} {
		wantFeed(t, what, s, b, nil, want, 0)
	}
}

// wantWaiting: each byte of b tells nothing and waits with those ahead of it.
func wantWaiting(t *testing.T, what any, s *Stream, b string) {
	t.Helper()
	for i := range len(b) {
		wantFeed(t, what, s, b[i:i+1], nil, 0, i+1)
	}
}

// P5.1
func TestExample(t *testing.T) {
	s := New(100)
	wantFeed(t, "first", s, "\xc0", nil, 0, 1)
	wantFeed(t, "second", s, "\x00", []api.Packet{{Kind: api.Pingreq}}, 0, 0)
}

// P5.1
func TestNewHasNothing(t *testing.T) {
	for _, limit := range []int{math.MinInt, 0, 2, 100, api.MaxPacket, math.MaxInt} {
		s := New(limit)
		if n := s.Held(); n != 0 {
			t.Errorf("limit %d: %d bytes wait in a new one", limit, n)
		}
		wantFeed(t, limit, s, "", nil, 0, 0)
	}
}

// P5.1
func TestLeastLimit(t *testing.T) {
	for _, limit := range []int{math.MinInt, -api.MaxPacket, -2, -1, 0, 1, 2} {
		s := New(limit)
		wantFeed(t, limit, s, ping, []api.Packet{{Kind: api.Pingreq}}, 0, 0)
		wantFeed(t, limit, s, "\xe0", nil, 0, 1)
		wantFeed(t, limit, s, "\x00", []api.Packet{{Kind: api.Disconnect}}, 0, 0)
		wantFeed(t, limit, s, bye, nil, api.ErrLimit, 0)
		wantEnded(t, limit, s, api.ErrLimit)
	}
}

// P5.1
func TestMostLimit(t *testing.T) {
	p, b := sized(t, api.MaxPacket)
	for _, limit := range []int{api.MaxPacket, api.MaxPacket + 1, api.MaxPacket + 2, 1 << 30, math.MaxInt} {
		s := New(limit)
		wantFeed(t, limit, s, b, []api.Packet{p}, 0, 0)
		wantFeed(t, limit, s, b[:len(b)-1], nil, 0, len(b)-1)
		wantFeed(t, limit, s, b[len(b)-1:], []api.Packet{p}, 0, 0)
		wantFeed(t, limit, s, "\x30\xfd\xff", nil, 0, 3)
		wantFeed(t, limit, s, "\x03", nil, api.ErrLimit, 0)
		wantEnded(t, limit, s, api.ErrLimit)
	}
}

// P5.1: a packet of just the limit, and of as few bytes more as may be, at each number of bytes that a length may have.
func TestLimit(t *testing.T) {
	for _, limit := range []int{5, 6, 100, 128, 129, 131, 132, 200, 16384, 16385, 16386, 16388, 16389, 20000, api.MaxPacket - 1} {
		p, b := sized(t, limit)
		_, more := sized(t, limit+1)
		if len(b) != limit || len(more) > limit+2 {
			t.Fatalf("packets of %d and %d bytes at %d", len(b), len(more), limit)
		}
		wantFeed(t, limit, New(limit), b, []api.Packet{p}, 0, 0)
		wantFeed(t, limit, New(limit), more, nil, api.ErrLimit, 0)
		wantFeed(t, limit, New(limit+1), b, []api.Packet{p}, 0, 0)
		wantFeed(t, limit, New(limit-1), b, nil, api.ErrLimit, 0)
		s := New(limit)
		wantFeed(t, limit, s, b+more, []api.Packet{p}, api.ErrLimit, 0)
		wantEnded(t, limit, s, api.ErrLimit)
	}
}

// P5.1: ahead of its body, and whatever that is.
func TestLimitAsSoonAsKnown(t *testing.T) {
	for _, limit := range []int{2, 3, 4, 5, 127, 128, 129, 130, 131, 16385, 16386, 16387, 16388, api.MaxPacket} {
		for body := range 1 << 17 {
			head := "\x30" + groups(body)
			size := len(head) + body
			if size > limit+300 {
				break
			}
			want, held := api.Errno(0), len(head)
			if size > limit {
				want, held = api.ErrLimit, 0
			}
			// A Publish without a body is none at all.
			if body == 0 {
				want, held = api.ErrForm, 0
			}
			s := New(limit)
			wantFeed(t, limit, s, head[:len(head)-1], nil, 0, len(head)-1)
			wantFeed(t, limit, s, head[len(head)-1:], nil, want, held)
		}
	}
	for _, b := range []string{"\x40\x02\x00\x00", "\x40\x02\x00\x05", "\x40\x02\x00\x05\xc0\x00", "\x40\x02\xff"} {
		wantFeed(t, b, New(3), b, nil, api.ErrLimit, 0)
	}
}

// P5.1: what is wrong ahead of the length comes ahead of the limit, the limit ahead of what is wrong in the body.
func TestErrorsInOrder(t *testing.T) {
	for _, c := range []struct {
		b    string
		want api.Errno
	}{
		{"\xc1\xff\xff\xff\x7f", api.ErrForm},
		{"\x00\x7f", api.ErrForm},
		{"\x36\x64" + strings.Repeat("x", 100), api.ErrForm},
		{"\xc1\x80\x00", api.ErrForm},
		{"\x30\xff\xff\xff\xff\x7f", api.ErrForm},
		{"\x30\xe4\x00" + strings.Repeat("x", 100), api.ErrForm},
		{"\xc0\x64" + strings.Repeat("x", 100), api.ErrLimit},
		{"\x40\x09\x00\x00zzzzzzz", api.ErrLimit},
		{"\x40\x08\x00\x00zzzzzz", api.ErrForm},
	} {
		wantFeed(t, c.b, New(10), c.b, nil, c.want, 0)
	}
}

// P5.1
func TestBad(t *testing.T) {
	for _, c := range bad {
		for _, behind := range []string{"", "\x00", ping, ack + "\xc1", "\xff\xff\xff\xff\xff"} {
			what := fmt.Sprintf("%x under %d, %x behind", c.b, c.limit, behind)
			s := New(c.limit)
			wantFeed(t, what, s, c.b+behind, nil, c.want, 0)
			wantEnded(t, what, s, c.want)
		}
	}
}

// P5.1: byte by byte what is none is told by its last byte, and Held goes up till then.
func TestBadBytewise(t *testing.T) {
	for _, c := range bad {
		what := fmt.Sprintf("%x under %d", c.b, c.limit)
		s := New(c.limit)
		last := len(c.b) - 1
		wantWaiting(t, what, s, c.b[:last])
		wantFeed(t, what, s, "", nil, 0, last)
		wantFeed(t, what, s, c.b[last:], nil, c.want, 0)
		wantEnded(t, what, s, c.want)
	}
}

// P5.1: packets ahead of what is none are told, in the same piece and in earlier ones.
func TestBadBehindPackets(t *testing.T) {
	b, l := all()
	for _, c := range bad {
		limit := max(c.limit, 20)
		if c.limit < limit && c.want == api.ErrLimit {
			continue
		}
		what := fmt.Sprintf("%x under %d", c.b, limit)
		s := New(limit)
		wantFeed(t, what, s, b+c.b+ping, l, c.want, 0)
		wantEnded(t, what, s, c.want)
		s = New(limit)
		wantFeed(t, what, s, b, l, 0, 0)
		wantFeed(t, what, s, c.b+ping, nil, c.want, 0)
		wantEnded(t, what, s, c.want)
		s = New(limit)
		wantFeed(t, what, s, b[:len(b)-1], l[:len(l)-1], 0, len(bye)-1)
		wantFeed(t, what, s, b[len(b)-1:]+c.b, l[len(l)-1:], c.want, 0)
		wantEnded(t, what, s, c.want)
		last := len(c.b) - 1
		s = New(limit)
		wantFeed(t, what, s, b+c.b[:last], l, 0, last)
		wantFeed(t, what, s, c.b[last:]+ping, nil, c.want, 0)
		wantEnded(t, what, s, c.want)
	}
}

// P5.1
func TestErrorIsTheSame(t *testing.T) {
	for _, c := range bad {
		s := New(c.limit)
		_, first := s.Feed([]byte(c.b))
		for range 3 {
			l, e := s.Feed([]byte(ping))
			if len(l) > 0 || e == nil || e.Error() != first.Error() {
				t.Errorf("%x: %v, then %s, %v", c.b, first, show(l), e)
			}
		}
	}
}

// P5.1
func TestOnePiece(t *testing.T) {
	b, l := all()
	for n := range l {
		s := New(api.MaxPacket)
		wantFeed(t, n, s, those[n].b, l[n:n+1], 0, 0)
		wantFeed(t, n, s, those[n].b+those[n].b, []api.Packet{l[n], l[n]}, 0, 0)
		wantFeed(t, n, s, b, l, 0, 0)
		wantFeed(t, n, s, b+b, append(slices.Clone(l), l...), 0, 0)
	}
}

// P5.1: Held behind each piece.
func TestTwoPieces(t *testing.T) {
	b, l := all()
	whole, ahead := 0, 0
	for cut := range len(b) {
		if cut == ahead+len(those[whole].b) {
			ahead, whole = cut, whole+1
		}
		s := New(20)
		wantFeed(t, cut, s, b[:cut], l[:whole], 0, cut-ahead)
		wantFeed(t, cut, s, "", nil, 0, cut-ahead)
		wantFeed(t, cut, s, b[cut:], l[whole:], 0, 0)
		wantFeed(t, cut, s, "", nil, 0, 0)
	}
}

// P5.1
func TestByteByByte(t *testing.T) {
	s := New(20)
	for _, c := range those {
		last := len(c.b) - 1
		wantWaiting(t, c.p, s, c.b[:last])
		wantFeed(t, c.p, s, c.b[last:], []api.Packet{c.p}, 0, 0)
	}
	p, b := sized(t, api.MaxPacket)
	s = New(api.MaxPacket)
	wantWaiting(t, "greatest", s, b[:len(b)-1])
	wantFeed(t, "greatest", s, b[len(b)-1:], []api.Packet{p}, 0, 0)
}

// P5.1
func TestEmptyPieces(t *testing.T) {
	b, l := all()
	s := New(20)
	var got []api.Packet
	for i := range len(b) {
		held := s.Held()
		for _, empty := range [][]byte{nil, {}} {
			m, e := s.Feed(empty)
			if len(m) > 0 || e != nil || s.Held() != held {
				t.Errorf("an empty piece at %d: %s, %v, %d", i, show(m), e, s.Held())
			}
		}
		m, e := s.Feed([]byte{b[i]})
		if e != nil {
			t.Errorf("at %d: %v", i, e)
		}
		got = append(got, m...)
	}
	if !same(got, l) {
		t.Errorf("packets %s", show(got))
	}
}

// P5.1: asking changes nothing.
func TestHeldAgain(t *testing.T) {
	s := New(20)
	s.Feed([]byte(ping + "\x40\x02\x00"))
	for range 3 {
		if n := s.Held(); n != 3 {
			t.Errorf("%d bytes wait, want 3", n)
		}
	}
	wantFeed(t, "rest", s, "\x05", []api.Packet{{Kind: api.Puback, ID: 5}}, 0, 0)
}

// model tells what bytes tell in one piece, packet by packet: their packets, the error, and how many bytes wait.
func model(b string, limit int) (l []api.Packet, n api.Errno, held int) {
	limit = min(max(limit, 2), api.MaxPacket)
	for {
		p, size, e := packet.Decode([]byte(b))
		if tooLong(b, limit) {
			return l, api.ErrLimit, 0
		}
		if errors.Is(e, api.ErrShort) {
			return l, 0, len(b)
		}
		if e != nil {
			errors.As(e, &n)
			return l, n, 0
		}
		l = append(l, p)
		b = b[size:]
	}
}

// tooLong: b begin with the head of a packet of more bytes than the limit. The heads of one byte after the other are tried.
func tooLong(b string, limit int) bool {
	for width := 1; width <= 4 && 1+width <= len(b); width++ {
		n := 0
		for i := range width {
			n += int(b[1+i]&127) << (7 * i)
		}
		if groups(n) != b[1:1+width] {
			continue
		}
		_, _, e := packet.Decode([]byte(b[:1]))
		return errors.Is(e, api.ErrShort) && 1+width+n > limit
	}
	return false
}

// wantCut: the pieces of b tell what b tells at once.
func wantCut(t *testing.T, b string, limit int, cut func() int) {
	t.Helper()
	l, n, held := model(b, limit)
	s := New(limit)
	var got []api.Packet
	var told api.Errno // by the last piece
	what := fmt.Sprintf("%x under %d", b, limit)
	for at := 0; at < len(b); {
		next := min(len(b), at+cut())
		m, e := s.Feed([]byte(b[at:next]))
		got = append(got, m...)
		before, now, wait := model(b[:next], limit)
		if told != 0 && len(m) > 0 || !same(got, before) {
			t.Errorf("%s: at %d packets %s, want %s", what, next, show(got), show(before))
		}
		wantErrno(t, what, e, now)
		if s.Held() != wait {
			t.Errorf("%s: at %d %d bytes wait, want %d", what, next, s.Held(), wait)
		}
		told, at = now, next
	}
	if !same(got, l) || told != n || s.Held() != held {
		t.Errorf("%s: in pieces %s, %v, %d, want %s, %v, %d", what, show(got), told, s.Held(), show(l), n, held)
	}
}

// some bytes: packets, some of them with a byte that is another one, cut off or drawn by chance.
func some(r *rand.Rand) string {
	b := ""
	for range r.Intn(6) {
		one := []byte(those[r.Intn(len(those))].b)
		switch r.Intn(8) {
		case 0:
			one[r.Intn(len(one))] = byte(r.Intn(256))
		case 1:
			one = one[:r.Intn(len(one))]
		case 2:
			one = append(one, byte(r.Intn(256)))
		case 3:
			one[1] |= 0x80
		}
		b += string(one)
	}
	return b
}

// P5.2
func TestPiecesOfPackets(t *testing.T) {
	b, l := all()
	for step := 1; step <= len(b); step++ {
		for first := 1; first <= len(b); first++ {
			s := New(20)
			var got []api.Packet
			for at := 0; at < len(b); {
				next := min(len(b), at+step)
				if at == 0 {
					next = first
				}
				m, e := s.Feed([]byte(b[at:next]))
				if e != nil {
					t.Errorf("%d, then %d each: %v", first, step, e)
				}
				got = append(got, m...)
				at = next
			}
			if !same(got, l) || s.Held() != 0 {
				t.Errorf("%d, then %d each: %s, %d", first, step, show(got), s.Held())
			}
		}
	}
}

// P5.2
func TestPiecesOfAnything(t *testing.T) {
	r := rand.New(rand.NewSource(5))
	limits := []int{-1, 2, 3, 4, 5, 14, 15, 16, 100, api.MaxPacket, math.MaxInt}
	for range 3000 {
		b, limit := some(r), limits[r.Intn(len(limits))]
		wantCut(t, b, limit, func() int { return 1 })
		wantCut(t, b, limit, func() int { return 2 })
		wantCut(t, b, limit, func() int { return len(b) })
		wantCut(t, b, limit, func() int { return r.Intn(7) })
	}
}

// P5.2: what is none, too, at each cut.
func TestPiecesOfBad(t *testing.T) {
	for _, c := range bad {
		b := ping + ack + c.b + ping
		for _, limit := range []int{c.limit, 2, 4, 100} {
			for size := 1; size <= len(b); size++ {
				wantCut(t, b, limit, func() int { return size })
			}
		}
	}
}

// P5.1 (R2)
func TestPieceIsNotKept(t *testing.T) {
	b, l := all()
	for size := 1; size <= len(b); size++ {
		s := New(20)
		var got []api.Packet
		piece := make([]byte, size, size+10)
		for at := 0; at < len(b); at += size {
			n := copy(piece, b[at:])
			m, e := s.Feed(piece[:n])
			if string(piece[:n]) != b[at:at+n] || strings.Trim(string(piece[size:cap(piece)]), "\x00") != "" {
				t.Errorf("pieces of %d: changed at %d", size, at)
			}
			if e != nil {
				t.Errorf("pieces of %d: %v", size, e)
			}
			for i := range piece {
				piece[i] = 0xff
			}
			got = append(got, m...)
		}
		if !same(got, l) {
			t.Errorf("pieces of %d: %s", size, show(got))
		}
	}
}

// spoil writes into all memory of packets, spare room too.
func spoil(l []api.Packet) {
	for _, p := range l {
		for i := range p.Props[:cap(p.Props)] {
			p.Props[:cap(p.Props)][i] = api.Prop{ID: 99, Str: "spoilt"}
		}
		for i := range p.Subs[:cap(p.Subs)] {
			p.Subs[:cap(p.Subs)][i] = api.Sub{Filter: "spoilt"}
		}
	}
	l = l[:cap(l)]
	for i := range l {
		l[i] = api.Packet{Kind: 99}
	}
}

// P5.1 (R2)
func TestPacketsAreNew(t *testing.T) {
	b, l := all()
	for cut := range len(b) {
		s, other := New(20), New(20)
		first, _ := s.Feed([]byte(b[:cut]))
		n := len(first)
		apart, _ := other.Feed([]byte(b[:cut]))
		spoil(first)
		second, e := s.Feed([]byte(b[cut:] + ping + ask))
		if e != nil || !same(second, append(slices.Clone(l[n:]), l[0], l[3])) {
			t.Errorf("cut at %d: %s, %v", cut, show(second), e)
		}
		third, e := s.Feed([]byte(b))
		spoil(second)
		if e != nil || !same(third, l) || !same(apart, l[:n]) {
			t.Errorf("cut at %d: %s, %s, %v", cut, show(third), show(apart), e)
		}
		wantFeed(t, cut, other, b[cut:], l[n:], 0, 0)
	}
}

// P5.1 (R2)
func TestListsAreApart(t *testing.T) {
	s := New(20)
	l, e := s.Feed([]byte(publish + publish + ask + ask))
	if e != nil || len(l) != 4 {
		t.Fatalf("%s, %v", show(l), e)
	}
	spoil(slices.Clone(l[:1]))
	spoil(slices.Clone(l[2:3]))
	if !same(l[1:2], []api.Packet{those[2].p}) || !same(l[3:], []api.Packet{those[3].p}) {
		t.Errorf("%s", show(l))
	}
}

// spoilError writes into all of an error that can be written into.
func spoilError(e error) {
	for e != nil {
		below := errors.Unwrap(e)
		if f, ok := e.(*api.Fault); ok {
			*f = api.Fault{Layer: "spoilt", Err: api.ErrNone}
		}
		e = below
	}
}

// P5.1 (R2)
func TestErrorIsNew(t *testing.T) {
	for _, c := range bad {
		s := New(c.limit)
		_, e := s.Feed([]byte(c.b))
		for range 3 {
			spoilError(e)
			_, e = s.Feed([]byte(ping))
			wantErrno(t, c.b, e, c.want)
		}
	}
}

// P5.1 (R2)
func TestStreamsAreApart(t *testing.T) {
	s, other := New(20), New(4)
	wantFeed(t, "one", s, "\x40\x02", nil, 0, 2)
	wantFeed(t, "other", other, publish, nil, api.ErrLimit, 0)
	wantFeed(t, "one", s, "\x00\x05"+publish, []api.Packet{those[1].p, those[2].p}, 0, 0)
	wantEnded(t, "other", other, api.ErrLimit)
}

// What is kept is no more than what waits needs.
func TestKeepsLittle(t *testing.T) {
	s := New(api.MaxPacket)
	wantKept := func(most int) {
		t.Helper()
		if n := cap(s.held); n > most {
			t.Errorf("room for %d bytes is kept, want at most %d", n, most)
		}
	}
	s.Feed([]byte(strings.Repeat(publish, 10000)))
	wantKept(0)
	s.Feed([]byte(strings.Repeat(publish, 10000) + "\x40\x02"))
	wantKept(64)
	s.Feed([]byte{0x00, 0x05})
	wantKept(0)
	s.Feed([]byte(strings.Repeat(publish, 10000) + "\xc1"))
	wantKept(0)
}

// A stream that New did not make takes nothing, but each call ends.
func TestZeroStreamEnds(t *testing.T) {
	for _, b := range []string{"", "\xc0", ping, ack, "\xc1", "\x30\xff\xff\xff\x7f"} {
		var s Stream
		if l, _ := s.Feed([]byte(b)); len(l) > 0 {
			t.Errorf("%x: %s", b, show(l))
		}
	}
}
