package prop

import (
	"bytes"
	"errors"
	"math"
	"slices"
	"strings"
	"testing"

	"dovecote/api"
)

// rule is what the document says of an ID: what it has, and where it may stand.
type rule struct {
	id     int
	has    string // "1", "2", "4": a number of so many bytes; "v", "t", "b", "tt"
	least  int
	most   int
	places []int
}

var rules = []rule{
	{0x01, "1", 0, 1, []int{3, 16}},
	{0x02, "4", 0, math.MaxUint32, []int{3, 16}},
	{0x03, "t", 0, 0, []int{3, 16}},
	{0x08, "t", 0, 0, []int{3, 16}},
	{0x09, "b", 0, 0, []int{3, 16}},
	{0x0b, "v", 1, api.MaxVar, []int{3, 8}},
	{0x11, "4", 0, math.MaxUint32, []int{1, 2, 14}},
	{0x12, "t", 0, 0, []int{2}},
	{0x13, "2", 0, math.MaxUint16, []int{2}},
	{0x15, "t", 0, 0, []int{1, 2, 15}},
	{0x16, "b", 0, 0, []int{1, 2, 15}},
	{0x17, "1", 0, 1, []int{1}},
	{0x18, "4", 0, math.MaxUint32, []int{16}},
	{0x19, "1", 0, 1, []int{1}},
	{0x1a, "t", 0, 0, []int{2}},
	{0x1c, "t", 0, 0, []int{2, 14}},
	{0x1f, "t", 0, 0, []int{2, 4, 5, 6, 7, 9, 11, 14, 15}},
	{0x21, "2", 1, math.MaxUint16, []int{1, 2}},
	{0x22, "2", 0, math.MaxUint16, []int{1, 2}},
	{0x23, "2", 1, math.MaxUint16, []int{3}},
	{0x24, "1", 0, 1, []int{2}},
	{0x25, "1", 0, 1, []int{2}},
	{0x26, "tt", 0, 0, []int{1, 2, 3, 4, 5, 6, 7, 8, 9, 10, 11, 14, 15, 16}},
	{0x27, "4", 1, math.MaxUint32, []int{1, 2}},
	{0x28, "1", 0, 1, []int{2}},
	{0x29, "1", 0, 1, []int{2}},
	{0x2a, "1", 0, 1, []int{2}},
}

// edges: numbers at and beside every edge, and those of which the low bytes alone would do.
var edges = []int{
	math.MinInt, -1 << 32, -65535, -256, -255, -2, -1, 0, 1, 2, 3,
	127, 128, 129, 254, 255, 256, 257, 0x0102, 16383, 16384, 65534, 65535, 65536, 65537, 0x010203, 2097151, 2097152,
	0x01020304, api.MaxVar - 1, api.MaxVar, api.MaxVar + 1, api.MaxVar + 2,
	math.MaxInt32, math.MaxInt32 + 1, math.MaxUint32 - 1, math.MaxUint32, math.MaxUint32 + 1, math.MaxUint32 + 2, 1 << 40, math.MaxInt,
}

var noTexts = []string{"\x00", "a\x00b", "\xff", "\x80", "\xc0\x80", "\xed\xa0\x80", "\xf4\x90\x80\x80", "ab\xe2\x82"}

var noPlaces = []int{math.MinInt, -64, -16, -3, -1, 0, 17, 18, 19, 32, 33, 35, 48, 64, 65, 67, 80, 256 + 3, 1<<32 + 3, math.MaxInt}

var behinds = []string{"", "\x00", "\x01", "\x26", "\xff\xff\xff\xff\xff", "\x03\x23\x00\x05"}

func (r rule) isNumber() bool { return r.has != "t" && r.has != "b" && r.has != "tt" }

// plain is a property by the rule, as ordinary as may be.
func (r rule) plain() api.Prop {
	switch r.has {
	case "t", "b":
		return api.Prop{ID: r.id, Str: "ab"}
	case "tt":
		return api.Prop{ID: r.id, Str: "k", Val: "v"}
	}
	return api.Prop{ID: r.id, Num: 1}
}

func ruleOf(id int) (rule, bool) {
	i := slices.IndexFunc(rules, func(r rule) bool { return r.id == id })
	if i < 0 {
		return rule{}, false
	}
	return rules[i], true
}

func groups(n int) string {
	var b []byte
	for ; n >= 128; n >>= 7 {
		b = append(b, byte(n&127|128))
	}
	return string(append(b, byte(n)))
}

func lengthy(s string) string {
	return string([]byte{byte(len(s) >> 8), byte(len(s))}) + s
}

// value tells the bytes of what a property has, by its rule, whether that may be or not.
func (r rule) value(p api.Prop) string {
	n := p.Num
	switch r.has {
	case "1":
		return string([]byte{byte(n)})
	case "2":
		return string([]byte{byte(n >> 8), byte(n)})
	case "4":
		return string([]byte{byte(n >> 24), byte(n >> 16), byte(n >> 8), byte(n)})
	case "v":
		return groups(n)
	case "tt":
		return lengthy(p.Str) + lengthy(p.Val)
	}
	return lengthy(p.Str)
}

func one(p api.Prop) string {
	r, _ := ruleOf(p.ID)
	return groups(p.ID) + r.value(p)
}

func body(l ...api.Prop) string {
	s := ""
	for _, p := range l {
		s += one(p)
	}
	return s
}

func told(s string) []byte { return []byte(groups(len(s)) + s) }

func short(what any) any {
	if b, ok := what.([]byte); ok && len(b) > 40 {
		return b[:40]
	}
	if l, ok := what.([]api.Prop); ok && len(l) > 3 {
		return l[:3]
	}
	return what
}

func wantErrno(t *testing.T, what any, place int, e error, want api.Errno) {
	t.Helper()
	var n api.Errno
	if !errors.As(e, &n) || n != want {
		t.Errorf("%.200q at %d: error %v, want %v", short(what), place, e, want)
	}
	var f *api.Fault
	if !errors.As(e, &f) || f.Layer != "prop" {
		t.Errorf("%.200q at %d: error %v does not tell its layer", short(what), place, e)
	}
}

// wantTaken: l may stand at place, and their bytes are as the document says.
func wantTaken(t *testing.T, l []api.Prop, place int) {
	t.Helper()
	if e := Check(l, place); e != nil {
		t.Errorf("Check(%.200q, %d) = %v", short(l), place, e)
	}
	want := told(body(l...))
	b, e := Put(l, place)
	if e != nil || !bytes.Equal(b, want) {
		t.Errorf("Put(%.200q, %d) = %.40x, %v, want %.40x", short(l), place, b, e, want)
	}
	wantGot(t, want, place, l)
}

// wantGot: bytes that begin with those of l tell l, whatever stands behind.
func wantGot(t *testing.T, b []byte, place int, l []api.Prop) {
	t.Helper()
	for _, behind := range behinds {
		got, size, e := Get(append(bytes.Clone(b), behind...), place)
		if e != nil || size != len(b) || !slices.Equal(got, l) {
			t.Errorf("Get(%.40x with %x behind, %d) = %.200q, %d, %v", b, behind, place, short(got), size, e)
		}
	}
}

func wantRefused(t *testing.T, l []api.Prop, place int, want api.Errno) {
	t.Helper()
	wantErrno(t, l, place, Check(l, place), want)
	wantPutRefused(t, l, place, want)
}

func wantPutRefused(t *testing.T, l []api.Prop, place int, want api.Errno) {
	t.Helper()
	b, e := Put(l, place)
	wantErrno(t, l, place, e, want)
	if len(b) != 0 {
		t.Errorf("Put(%.200q, %d) tells %.40x beside its error", short(l), place, b)
	}
}

func wantNoneGot(t *testing.T, b []byte, place int, want api.Errno) {
	t.Helper()
	l, size, e := Get(b, place)
	wantErrno(t, b, place, e, want)
	if len(l) != 0 || size != 0 {
		t.Errorf("Get(%.40x, %d) tells %.200q, %d beside its error", b, place, short(l), size)
	}
}

// wantBoth: neither l nor their bytes may stand at place.
func wantBoth(t *testing.T, l []api.Prop, place int, want api.Errno) {
	t.Helper()
	wantRefused(t, l, place, want)
	for _, behind := range behinds {
		wantNoneGot(t, append(told(body(l...)), behind...), place, want)
	}
}

// good: lists of several, with their places.
var good = []struct {
	place int
	l     []api.Prop
}{
	{api.Connect, nil},
	{api.Pingreq, nil},
	{api.Publish, []api.Prop{{ID: 0x23, Num: 5}}},
	{api.Publish, []api.Prop{{ID: 0x01, Num: 1}, {ID: 0x02, Num: math.MaxUint32}, {ID: 0x03, Str: "t"}, {ID: 0x08, Str: "a/b"}, {ID: 0x09, Str: "\xff\x00"}, {ID: 0x0b, Num: 300}, {ID: 0x23, Num: 256}, {ID: 0x26}}},
	{api.Publish, []api.Prop{{ID: 0x26, Str: "k", Val: "v"}, {ID: 0x0b, Num: 1}, {ID: 0x26, Str: "k", Val: "v"}, {ID: 0x0b, Num: 1}, {ID: 0x0b, Num: api.MaxVar}, {ID: 0x26, Val: "é"}, {ID: 0x01}}},
	{api.Connect, []api.Prop{{ID: 0x27, Num: 1}, {ID: 0x22}, {ID: 0x21, Num: 65535}, {ID: 0x19, Num: 1}, {ID: 0x17}, {ID: 0x16, Str: "\x80"}, {ID: 0x15, Str: "x"}, {ID: 0x11, Num: 7}}},
	{api.Connack, []api.Prop{{ID: 0x12, Str: "c"}, {ID: 0x13, Num: 60}, {ID: 0x1a}, {ID: 0x1c, Str: "s"}, {ID: 0x1f, Str: "why"}, {ID: 0x24}, {ID: 0x25, Num: 1}, {ID: 0x28, Num: 1}, {ID: 0x29, Num: 1}, {ID: 0x2a}}},
	{api.Subscribe, []api.Prop{{ID: 0x0b, Num: 16384}, {ID: 0x26, Str: "a", Val: "b"}}},
	{16, []api.Prop{{ID: 0x18, Num: 9}, {ID: 0x02, Num: 0x01020304}, {ID: 0x09}, {ID: 0x26, Str: "a"}}},
	{api.Disconnect, []api.Prop{{ID: 0x1f, Str: strings.Repeat("z", 300)}, {ID: 0x11}, {ID: 0x1c, Str: "s"}}},
}

func TestListsAndTheirBytes(t *testing.T) { // P3.1, P3.2
	for _, c := range good {
		wantTaken(t, c.l, c.place)
	}
	for _, c := range []struct {
		l    []api.Prop
		want string
	}{
		{nil, "\x00"},
		{[]api.Prop{}, "\x00"},
		{[]api.Prop{{ID: 0x23, Num: 5}}, "\x03\x23\x00\x05"},
		{[]api.Prop{{ID: 0x23, Num: 0x0102}, {ID: 0x02, Num: 0x01020304}}, "\x08\x23\x01\x02\x02\x01\x02\x03\x04"},
		{[]api.Prop{{ID: 0x26, Str: "ab", Val: "c"}, {ID: 0x0b, Num: 128}}, "\x0b\x26\x00\x02ab\x00\x01c\x0b\x80\x01"},
		{[]api.Prop{{ID: 0x08, Str: strings.Repeat("r", 125)}}, "\x80\x01\x08\x00\x7d" + strings.Repeat("r", 125)},
	} {
		b, e := Put(c.l, api.Publish)
		if e != nil || string(b) != c.want {
			t.Errorf("Put(%v) = %x, %v", c.l, b, e)
		}
		wantGot(t, []byte(c.want), api.Publish, c.l)
	}
}

// TestEachIDAtEachPlace: each alone, where it may stand and where it may not.
func TestEachIDAtEachPlace(t *testing.T) { // P3.1, P3.2
	for _, r := range rules {
		for place := 1; place <= 16; place++ {
			if slices.Contains(r.places, place) {
				wantTaken(t, []api.Prop{r.plain()}, place)
			} else {
				wantBoth(t, []api.Prop{r.plain()}, place, api.ErrForm)
			}
		}
		for _, place := range noPlaces {
			wantBoth(t, []api.Prop{r.plain()}, place, api.ErrForm)
		}
	}
}

func TestNoPropertiesMayStandAnywhere(t *testing.T) { // P3.1, P3.2
	for place := 1; place <= 16; place++ {
		wantTaken(t, nil, place)
	}
	for _, place := range noPlaces {
		wantTaken(t, nil, place)
	}
}

func TestIDsThatAreNone(t *testing.T) { // P3.1, P3.2
	ids := []int{math.MinInt, -0x26, 16384, 1<<8 + 0x26, 1<<32 + 0x26, api.MaxVar, api.MaxVar + 1, math.MaxInt}
	for id := -2; id < 300; id++ {
		ids = append(ids, id)
	}
	for _, id := range ids {
		if _, ok := ruleOf(id); ok {
			continue
		}
		for place := range 18 {
			for _, p := range []api.Prop{{ID: id}, {ID: id, Num: 1}, {ID: id, Str: "a"}, {ID: id, Str: "a", Val: "b"}} {
				wantRefused(t, []api.Prop{p}, place, api.ErrForm)
			}
			if id < 0 || id > api.MaxVar {
				continue
			}
			for _, v := range []string{"", "\x00", "\x01", "\x00\x01", "\x00\x00\x00\x01", "\x00\x00\x00\x00"} {
				wantNoneGot(t, told(groups(id)+v), place, api.ErrForm)
			}
		}
	}
}

// TestRepeats: each ID twice, side by side and apart.
func TestRepeats(t *testing.T) { // P3.1, P3.2
	for _, r := range rules {
		for _, place := range r.places {
			p, between := r.plain(), api.Prop{ID: 0x26, Str: "a", Val: "b"}
			for _, l := range [][]api.Prop{{p, p}, {p, between, p}, {between, p, p}, {p, p, between, p}} {
				if r.id == 0x26 || r.id == 0x0b && place == api.Publish {
					wantTaken(t, l, place)
				} else {
					wantBoth(t, l, place, api.ErrForm)
				}
			}
		}
	}
	// With other numbers or texts it is the same ID all the same.
	wantBoth(t, []api.Prop{{ID: 0x02, Num: 1}, {ID: 0x02, Num: 2}}, api.Publish, api.ErrForm)
	wantBoth(t, []api.Prop{{ID: 0x0b, Num: 1}, {ID: 0x0b, Num: 2}}, api.Subscribe, api.ErrForm)
	wantBoth(t, []api.Prop{{ID: 0x03, Str: "a"}, {ID: 0x03, Str: "b"}}, 16, api.ErrForm)
	// The first value is 0 or empty.
	wantBoth(t, []api.Prop{{ID: 0x01}, {ID: 0x01}}, 16, api.ErrForm)
	wantBoth(t, []api.Prop{{ID: 0x09}, {ID: 0x09}}, 16, api.ErrForm)
}

func TestNumbersAtTheirEdges(t *testing.T) { // P3.1, P3.2
	for _, r := range rules {
		if !r.isNumber() {
			continue
		}
		for _, n := range edges {
			l := []api.Prop{{ID: r.id, Num: n}}
			if r.least <= n && n <= r.most {
				wantTaken(t, l, r.places[0])
			} else {
				wantRefused(t, l, r.places[0], api.ErrForm)
			}
		}
	}
}

// TestEachByteOfANumber: what bytes tell that no Put does.
func TestEachByteOfANumber(t *testing.T) { // P3.2
	for _, r := range rules {
		if r.has != "1" && r.has != "2" {
			continue
		}
		for n := range 1 << 16 {
			if r.has == "1" && n > 255 {
				break
			}
			p := api.Prop{ID: r.id, Num: n}
			if n < r.least || n > r.most {
				wantNoneGot(t, told(one(p)), r.places[0], api.ErrForm)
			} else if l, _, e := Get(told(one(p)), r.places[0]); e != nil || !slices.Equal(l, []api.Prop{p}) {
				t.Errorf("%x of %d: %v, %v", r.id, n, l, e)
			}
		}
	}
	wantNoneGot(t, []byte("\x05\x27\x00\x00\x00\x00"), api.Connect, api.ErrForm)
	wantNoneGot(t, []byte("\x02\x0b\x00"), api.Publish, api.ErrForm)
	wantNoneGot(t, []byte("\x02\x0b\x00"), api.Subscribe, api.ErrForm)
}

func TestTexts(t *testing.T) { // P3.1, P3.2
	full, over := strings.Repeat("x", api.MaxText), strings.Repeat("x", api.MaxText+1)
	for _, r := range rules {
		if r.has != "t" && r.has != "tt" {
			continue
		}
		place := r.places[0]
		for _, s := range []string{"", "a", "a/+/#", "é€𐍈", "\U0010ffff", full} {
			wantTaken(t, []api.Prop{{ID: r.id, Str: s}}, place)
		}
		for _, s := range noTexts {
			wantBoth(t, []api.Prop{{ID: r.id, Str: s}}, place, api.ErrForm)
		}
		for _, s := range []string{over, over + "\x00", full + full} {
			wantRefused(t, []api.Prop{{ID: r.id, Str: s}}, place, api.ErrForm)
		}
	}
	for _, s := range []string{"", "a", "é€𐍈", full} {
		wantTaken(t, []api.Prop{{ID: 0x26, Str: "k", Val: s}}, api.Auth)
		wantTaken(t, []api.Prop{{ID: 0x26, Val: s}}, api.Auth)
		wantTaken(t, []api.Prop{{ID: 0x26, Str: s, Val: s}}, api.Auth)
	}
	for _, s := range noTexts {
		wantBoth(t, []api.Prop{{ID: 0x26, Str: "k", Val: s}}, api.Auth, api.ErrForm)
		wantBoth(t, []api.Prop{{ID: 0x26, Str: s, Val: "v"}}, api.Auth, api.ErrForm)
	}
	wantRefused(t, []api.Prop{{ID: 0x26, Str: "k", Val: over}}, api.Auth, api.ErrForm)
	wantRefused(t, []api.Prop{{ID: 0x26, Str: over, Val: "v"}}, api.Auth, api.ErrForm)
}

func TestBinary(t *testing.T) { // P3.1, P3.2
	full := strings.Repeat("\xff", api.MaxText)
	for _, r := range rules {
		if r.has != "b" {
			continue
		}
		for _, s := range append([]string{"", "a", full}, noTexts...) {
			wantTaken(t, []api.Prop{{ID: r.id, Str: s}}, r.places[0])
		}
		for _, s := range []string{full + "x", full + full} {
			wantRefused(t, []api.Prop{{ID: r.id, Str: s}}, r.places[0], api.ErrForm)
		}
	}
}

func TestFieldsWithoutUse(t *testing.T) { // P3.1
	for _, r := range rules {
		for _, place := range r.places {
			for _, s := range []string{"x", "\x00"} {
				p := r.plain()
				if p.Val = s; r.has != "tt" {
					wantRefused(t, []api.Prop{p}, place, api.ErrForm)
				}
				p = r.plain()
				if p.Str = s; r.isNumber() {
					wantRefused(t, []api.Prop{p}, place, api.ErrForm)
				}
			}
			for _, n := range []int{math.MinInt, -1, 1, 2, math.MaxInt} {
				p := r.plain()
				if p.Num = n; !r.isNumber() {
					wantRefused(t, []api.Prop{p}, place, api.ErrForm)
				}
			}
		}
	}
}

func times(n int, p api.Prop) []api.Prop { return slices.Repeat([]api.Prop{p}, n) }

func TestHowMany(t *testing.T) { // P3.1, P3.2
	for _, p := range []api.Prop{{ID: 0x26, Str: "k", Val: "v"}, {ID: 0x26}, {ID: 0x0b, Num: 1}, {ID: 0x0b, Num: api.MaxVar}} {
		for _, n := range []int{1, 2, api.MaxProps - 1, api.MaxProps} {
			wantTaken(t, times(n, p), api.Publish)
		}
		for _, n := range []int{api.MaxProps + 1, api.MaxProps + 2, 2 * api.MaxProps, 1000} {
			wantBoth(t, times(n, p), api.Publish, api.ErrLimit)
		}
	}
	for _, place := range rules[22].places {
		wantTaken(t, times(api.MaxProps, api.Prop{ID: 0x26, Str: "k"}), place)
		wantBoth(t, times(api.MaxProps+1, api.Prop{ID: 0x26, Str: "k"}), place, api.ErrLimit)
	}
	mixed := append(times(api.MaxProps-1, api.Prop{ID: 0x26}), api.Prop{ID: 0x23, Num: 1})
	wantTaken(t, mixed, api.Publish)
	wantBoth(t, append(mixed, api.Prop{ID: 0x02}), api.Publish, api.ErrLimit)
}

func TestFormAheadOfLimit(t *testing.T) { // P3.1, P3.2
	bads := []api.Prop{{ID: 0x21, Num: 1}, {ID: 0x04}, {ID: 0x01, Num: 2}, {ID: 0x23}, {ID: 0x0b}, {ID: 0x03, Str: "\x00"}, {ID: 0x26, Str: "\xff"}, {ID: 0x26, Val: "\xff"}}
	for _, n := range []int{api.MaxProps, api.MaxProps + 1, 3 * api.MaxProps} {
		for _, bad := range bads {
			for _, at := range []int{0, 1, api.MaxProps - 1, api.MaxProps, n} {
				l := slices.Insert(times(n, api.Prop{ID: 0x26}), at, bad)
				wantBoth(t, l, api.Publish, api.ErrForm)
			}
		}
		l := times(n, api.Prop{ID: 0x26})
		wantBoth(t, append(l, api.Prop{ID: 0x02}, api.Prop{ID: 0x02}), api.Publish, api.ErrForm)
		wantBoth(t, append([]api.Prop{{ID: 0x02}}, append(l, api.Prop{ID: 0x02})...), api.Publish, api.ErrForm)
	}
	wantBoth(t, times(api.MaxProps+1, api.Prop{ID: 0x0b, Num: 1}), api.Subscribe, api.ErrForm)
	wantBoth(t, times(api.MaxProps+1, api.Prop{ID: 0x26}), api.Pingreq, api.ErrForm)
	// Bytes that end within the property behind MaxProps.
	wantNoneGot(t, told(strings.Repeat("\x0b\x01", api.MaxProps)+"\x0b"), api.Publish, api.ErrForm)
	wantNoneGot(t, told(strings.Repeat("\x0b\x01", api.MaxProps+5)+"\x0b\x80"), api.Publish, api.ErrForm)
}

// TestMoreBytesThanALengthTells: only more than MaxProps can have them; ErrForm is ahead.
func TestMoreBytesThanALengthTells(t *testing.T) { // P3.1
	full := strings.Repeat("\U00010348", api.MaxText/4) + "xxx"
	whole := api.Prop{ID: 0x26, Str: full, Val: full}
	size := len(one(whole))
	last := api.Prop{ID: 0x26, Str: full, Val: strings.Repeat("x", api.MaxVar%size-len(one(api.Prop{ID: 0x26, Str: full})))}
	l := append(times(api.MaxVar/size, whole), last)
	wantPutRefused(t, l, api.Publish, api.ErrLimit)
	l[len(l)-1].Val += "x"
	wantPutRefused(t, l, api.Publish, api.ErrForm)
	// Check tells no bytes.
	wantErrno(t, l, api.Publish, Check(l, api.Publish), api.ErrLimit)
}

func TestBytesThatEndTooEarly(t *testing.T) { // P3.2
	for _, c := range good {
		b := told(body(c.l...))
		for k := range b {
			wantNoneGot(t, b[:k], c.place, api.ErrShort)
		}
	}
	for _, r := range rules {
		b := told(one(r.plain()))
		for k := range b {
			wantNoneGot(t, b[:k], r.places[0], api.ErrShort)
		}
	}
	for _, s := range []string{"", "\x80", "\xff", "\x80\x80", "\xff\xff", "\x80\x80\x80", "\xff\xff\xff", "\x01", "\x80\x01", "\xff\xff\xff\x7f", "\xff\xff\xff\x7f\x26"} {
		wantNoneGot(t, []byte(s), api.Publish, api.ErrShort)
	}
}

// TestShortAheadOfForm: what is there is none already, but it is not all there.
func TestShortAheadOfForm(t *testing.T) { // P3.2
	for _, s := range []string{"\x04", "\x01\x02", "\x23\x00\x00", "\x21\x00\x01", "\x81\x00\x01", "\x0b\x80\x00", "\x03\x00\x01\x00", "\x01\x00\x01\x00", strings.Repeat("\x0b\x01", api.MaxProps+1)} {
		b := told(s + "x")
		for k := range b {
			wantNoneGot(t, b[:k], api.Publish, api.ErrShort)
		}
		wantNoneGot(t, b, api.Publish, api.ErrForm)
	}
	wantNoneGot(t, []byte("\x02\x01"), 99, api.ErrShort)
}

// TestLengthEndsWithinAProperty: what stands behind the length does not make it whole.
func TestLengthEndsWithinAProperty(t *testing.T) { // P3.2
	for _, r := range rules {
		s := one(r.plain())
		for k := 1; k < len(s); k++ {
			for _, place := range r.places {
				wantNoneGot(t, []byte(groups(k)+s), place, api.ErrForm)
				wantNoneGot(t, []byte(groups(k)+s[:k]), place, api.ErrForm)
			}
		}
	}
	for _, c := range good {
		s := body(c.l...)
		whole := map[int]int{0: 0}
		for i := range c.l {
			whole[len(body(c.l[:i+1]...))] = i + 1
		}
		for k := range len(s) + 1 {
			b := []byte(groups(k) + s)
			n, ok := whole[k]
			if !ok {
				wantNoneGot(t, b, c.place, api.ErrForm)
			} else if l, size, e := Get(b, c.place); e != nil || size != len(groups(k))+k || !slices.Equal(l, c.l[:n]) {
				t.Errorf("Get(%.40x, %d) = %v, %d, %v", b, c.place, l, size, e)
			}
		}
	}
}

func TestMoreBytesThanNeedBe(t *testing.T) { // P3.2
	for _, s := range []string{
		// the length
		"\x80\x00", "\x80\x80\x00", "\x80\x80\x80\x00", "\x83\x00\x23\x00\x05", "\x83\x80\x00\x23\x00\x05", "\x83\x80\x80\x00\x23\x00\x05",
		"\x80\x80\x80\x80", "\x80\x80\x80\x80\x01", "\xff\xff\xff\xff", "\xff\xff\xff\xff\x7f", "\x83\x80\x80\x80\x00\x23\x00\x05",
		// the ID
		"\x04\xa3\x00\x00\x05", "\x05\xa3\x80\x00\x00\x05", "\x06\xa3\x80\x80\x00\x00\x05", "\x07\xa3\x80\x80\x80\x00\x00\x05", "\x03\x81\x00\x01", "\x02\xa3\x00", "\x01\x80", "\x01\xa3", "\x04\x80\x80\x80\x80",
		// the number
		"\x03\x0b\x81\x00", "\x04\x0b\x81\x80\x00", "\x05\x0b\x81\x80\x80\x00", "\x06\x0b\x81\x80\x80\x80\x00", "\x03\x0b\x80\x00", "\x02\x0b\x81", "\x05\x0b\xff\xff\xff\xff", "\x06\x0b\xff\xff\xff\xff\x7f",
	} {
		for _, behind := range behinds {
			wantNoneGot(t, []byte(s+behind), api.Publish, api.ErrForm)
		}
	}
}

func TestTheyUndoEachOther(t *testing.T) { // P3.3
	for _, first := range rules {
		for _, second := range rules {
			for _, place := range first.places {
				l := []api.Prop{first.plain(), second.plain()}
				b, e := Put(l, place)
				if (e == nil) != (Check(l, place) == nil) {
					t.Errorf("%v at %d: Put %v, Check %v", l, place, e, Check(l, place))
				}
				if e == nil {
					wantGot(t, b, place, l)
				}
			}
		}
	}
}

func wantRedone(t *testing.T, b []byte, place int) {
	t.Helper()
	l, size, e := Get(b, place)
	if e != nil {
		return
	}
	again, e := Put(l, place)
	if e != nil || size > len(b) || !bytes.Equal(again, b[:size]) {
		t.Fatalf("%x at %d: %v, %d; told again %x, %v", b, place, l, size, again, e)
	}
}

// TestPutUndoesGet: all bytes of a small alphabet, and good bytes with one of them changed.
func TestPutUndoesGet(t *testing.T) { // P3.3
	var walk func(b []byte)
	walk = func(b []byte) {
		wantRedone(t, b, api.Publish)
		if len(b) == 7 {
			return
		}
		for _, c := range []byte{0x00, 0x01, 0x03, 0x05, 0x0b, 0x23, 0x26, 0x81} {
			walk(append(b, c))
		}
	}
	walk(make([]byte, 0, 7))
	for _, c := range good {
		b := told(body(c.l...))
		for i := range b {
			for x := range 256 {
				changed := bytes.Clone(b)
				changed[i] = byte(x)
				wantRedone(t, changed, c.place)
			}
		}
	}
}

func TestMemoryIsNew(t *testing.T) { // R2
	given := []api.Prop{{ID: 0x23, Num: 5}, {ID: 0x26, Str: "k", Val: "v"}}
	kept := slices.Clone(given)
	for _, l := range [][]api.Prop{given, nil} {
		first, _ := Put(l, api.Publish)
		want := string(first)
		clear(first[:cap(first)])
		if second, e := Put(l, api.Publish); e != nil || string(second) != want {
			t.Errorf("%x, %v behind a change of what was told", second, e)
		}
	}
	if !slices.Equal(given, kept) {
		t.Errorf("what was handed in is %v", given)
	}
	b, _ := Put(given, api.Publish)
	before := string(b)
	first, _, _ := Get(b, api.Publish)
	second, _, _ := Get(b, api.Publish)
	if string(b) != before {
		t.Errorf("what was handed in is %x", b)
	}
	clear(b)
	clear(first[:cap(first)])
	if !slices.Equal(second, kept) {
		t.Errorf("what was told turned into %v", second)
	}
}
