package packet

import (
	"bytes"
	"errors"
	"fmt"
	"math"
	"reflect"
	"slices"
	"strings"
	"testing"

	"dovecote/api"
	"dovecote/prop"
)

type sample struct {
	p    api.Packet
	want string // its bytes
}

var pair = []api.Prop{{ID: 0x26, Str: "k", Val: "v"}}

const pairBytes = "\x07\x26\x00\x01k\x00\x01v"

const hello = "\x00\x04MQTT\x05"

// good: packets of each kind, and their bytes.
var good = []sample{
	{api.Packet{Kind: api.Connect}, "\x10\x0d" + hello + "\x00\x00\x00\x00\x00\x00"},
	{api.Packet{Kind: api.Connect, Client: "c", Clean: true, Keep: 0x0102}, "\x10\x0e" + hello + "\x02\x01\x02\x00\x00\x01c"},
	{api.Packet{Kind: api.Connect, Client: "cd", Keep: 65535, User: []string{"us"}}, "\x10\x13" + hello + "\x80\xff\xff\x00\x00\x02cd\x00\x02us"},
	{api.Packet{Kind: api.Connect, Pass: []string{"\x00\xff"}}, "\x10\x11" + hello + "\x40\x00\x00\x00\x00\x00\x00\x02\x00\xff"},
	{api.Packet{Kind: api.Connect, User: []string{""}, Pass: []string{""}, Props: []api.Prop{{ID: 0x11, Num: 7}, {ID: 0x21, Num: 9}}}, "\x10\x19" + hello + "\xc0\x00\x00\x08\x11\x00\x00\x00\x07\x21\x00\x09\x00\x00\x00\x00\x00\x00"},
	{api.Packet{Kind: api.Connect, Wills: []api.Will{{}}}, "\x10\x12" + hello + "\x04\x00\x00\x00\x00\x00\x00\x00\x00\x00\x00"},
	{api.Packet{Kind: api.Connect, Clean: true, Wills: []api.Will{{Topic: "w", Payload: "\xff\x00", QoS: 1}}}, "\x10\x15" + hello + "\x0e\x00\x00\x00\x00\x00\x00\x00\x01w\x00\x02\xff\x00"},
	{api.Packet{Kind: api.Connect, Client: "c", Keep: 1, Props: pair, Wills: []api.Will{{Topic: "w/t", Payload: "p", QoS: 2, Retain: true, Props: []api.Prop{{ID: 0x18, Num: 5}}}}, User: []string{"u"}, Pass: []string{"s"}}, "\x10\x29" + hello + "\xf4\x00\x01" + pairBytes + "\x00\x01c\x05\x18\x00\x00\x00\x05\x00\x03w/t\x00\x01p\x00\x01u\x00\x01s"},
	{api.Packet{Kind: api.Connack}, "\x20\x03\x00\x00\x00"},
	{api.Packet{Kind: api.Connack, Session: true}, "\x20\x03\x01\x00\x00"},
	{api.Packet{Kind: api.Connack, Code: 0x87, Props: []api.Prop{{ID: 0x24, Num: 1}}}, "\x20\x05\x00\x87\x02\x24\x01"},
	{api.Packet{Kind: api.Publish}, "\x30\x03\x00\x00\x00"},
	{api.Packet{Kind: api.Publish, Topic: "a/b", Payload: "\x00\xffhi", Retain: true}, "\x31\x0a\x00\x03a/b\x00\x00\xffhi"},
	{api.Packet{Kind: api.Publish, Topic: "+", QoS: 1, ID: 0x0102, Props: []api.Prop{{ID: 0x23, Num: 5}}, Payload: "x"}, "\x32\x0a\x00\x01+\x01\x02\x03\x23\x00\x05x"},
	{api.Packet{Kind: api.Publish, Topic: "t", Dup: true, QoS: 1, ID: 1}, "\x3a\x06\x00\x01t\x00\x01\x00"},
	{api.Packet{Kind: api.Publish, Dup: true, QoS: 2, Retain: true, ID: 65535, Payload: "end"}, "\x3d\x08\x00\x00\xff\xff\x00end"},
	{api.Packet{Kind: api.Puback, ID: 5}, "\x40\x02\x00\x05"},
	{api.Packet{Kind: api.Puback, ID: 5, Code: 16}, "\x40\x03\x00\x05\x10"},
	{api.Packet{Kind: api.Pubrec, ID: 258, Code: 0x80, Props: pair}, "\x50\x0b\x01\x02\x80" + pairBytes},
	{api.Packet{Kind: api.Pubrel, ID: 65535}, "\x62\x02\xff\xff"},
	{api.Packet{Kind: api.Pubrel, ID: 1, Props: []api.Prop{{ID: 0x1f, Str: "why"}}}, "\x62\x0a\x00\x01\x00\x06\x1f\x00\x03why"},
	{api.Packet{Kind: api.Pubcomp, ID: 256, Code: 0x92}, "\x70\x03\x01\x00\x92"},
	{api.Packet{Kind: api.Subscribe, ID: 10, Subs: []api.Sub{{Filter: "a"}}}, "\x82\x07\x00\x0a\x00\x00\x01a\x00"},
	{api.Packet{Kind: api.Subscribe, ID: 1, Props: []api.Prop{{ID: 0x0b, Num: 128}}, Subs: []api.Sub{{Filter: "a/#", QoS: 2, NoLocal: true}, {Filter: "", AsPub: true, Handling: 1}, {Filter: "+", QoS: 1, Handling: 2}}}, "\x82\x13\x00\x01\x03\x0b\x80\x01\x00\x03a/#\x06\x00\x00\x18\x00\x01+\x21"},
	{api.Packet{Kind: api.Suback, ID: 7, Codes: []int{0, 1, 2, 255}}, "\x90\x07\x00\x07\x00\x00\x01\x02\xff"},
	{api.Packet{Kind: api.Suback, ID: 7, Props: pair, Codes: []int{128}}, "\x90\x0b\x00\x07" + pairBytes + "\x80"},
	{api.Packet{Kind: api.Unsubscribe, ID: 300, Filters: []string{"x", "", "y/+"}}, "\xa2\x0d\x01\x2c\x00\x00\x01x\x00\x00\x00\x03y/+"},
	{api.Packet{Kind: api.Unsubscribe, ID: 3, Props: pair, Filters: []string{"$share/g/x"}}, "\xa2\x16\x00\x03" + pairBytes + "\x00\x0a$share/g/x"},
	{api.Packet{Kind: api.Unsuback, ID: 7, Props: pair, Codes: []int{17, 0}}, "\xb0\x0c\x00\x07" + pairBytes + "\x11\x00"},
	{api.Packet{Kind: api.Pingreq}, "\xc0\x00"},
	{api.Packet{Kind: api.Pingresp}, "\xd0\x00"},
	{api.Packet{Kind: api.Disconnect}, "\xe0\x00"},
	{api.Packet{Kind: api.Disconnect, Code: 4}, "\xe0\x01\x04"},
	{api.Packet{Kind: api.Disconnect, Props: []api.Prop{{ID: 0x11, Num: 1}}}, "\xe0\x07\x00\x05\x11\x00\x00\x00\x01"},
	{api.Packet{Kind: api.Auth}, "\xf0\x00"},
	{api.Packet{Kind: api.Auth, Code: 24, Props: []api.Prop{{ID: 0x15, Str: "m"}, {ID: 0x16, Str: "\xff"}}}, "\xf0\x0a\x18\x08\x15\x00\x01m\x16\x00\x01\xff"},
}

// names: the fields that the document names of each kind, beside Kind.
var names = map[int][]string{
	api.Connect:     {"Clean", "Keep", "Props", "Client", "Wills", "User", "Pass"},
	api.Connack:     {"Session", "Code", "Props"},
	api.Publish:     {"Dup", "QoS", "Retain", "Topic", "ID", "Props", "Payload"},
	api.Puback:      {"ID", "Code", "Props"},
	api.Pubrec:      {"ID", "Code", "Props"},
	api.Pubrel:      {"ID", "Code", "Props"},
	api.Pubcomp:     {"ID", "Code", "Props"},
	api.Subscribe:   {"ID", "Props", "Subs"},
	api.Suback:      {"ID", "Props", "Codes"},
	api.Unsubscribe: {"ID", "Props", "Filters"},
	api.Unsuback:    {"ID", "Props", "Codes"},
	api.Pingreq:     {},
	api.Pingresp:    {},
	api.Disconnect:  {"Code", "Props"},
	api.Auth:        {"Code", "Props"},
}

func has(kind int, field string) bool { return slices.Contains(names[kind], field) }

// plain is a packet of the kind, as ordinary as may be.
func plain(kind int) api.Packet {
	p := api.Packet{Kind: kind}
	if has(kind, "ID") && kind != api.Publish {
		p.ID = 1
	}
	if has(kind, "Subs") {
		p.Subs = []api.Sub{{Filter: "f"}}
	}
	if has(kind, "Filters") {
		p.Filters = []string{"f"}
	}
	if has(kind, "Codes") {
		p.Codes = []int{0}
	}
	return p
}

func kindsWith(field string) []int {
	var l []int
	for kind := api.Connect; kind <= api.Auth; kind++ {
		if has(kind, field) {
			l = append(l, kind)
		}
	}
	return l
}

var badNumbers = []int{math.MinInt, -1 << 32, -65536, -65535, -256, -255, -2, -1}

var noTexts = []string{"\x00", "a\x00b", "\xff", "\x80", "\xc0\x80", "\xed\xa0\x80", "\xf4\x90\x80\x80", "ab\xe2\x82"}

var behinds = []string{"", "\x00", "\x01\x00", "\xc0\x00", "\xff\xff\xff\xff\xff"}

func groups(n int) string {
	var b []byte
	for ; n >= 128; n >>= 7 {
		b = append(b, byte(n&127|128))
	}
	return string(append(b, byte(n)))
}

func lengthy(s string) string {
	return string([]byte{byte(len(s) >> 8), byte(len(s))}) + s
}

func told(first byte, body string) []byte {
	return []byte(string([]byte{first}) + groups(len(body)) + body)
}

// bodyOf: of packets with fewer than 128 bytes of it.
func bodyOf(s sample) string { return s.want[2:] }

func bare[T any](l []T) []T {
	if len(l) == 0 {
		return nil
	}
	return l
}

// plainly: nil lists and empty ones are one.
func plainly(p api.Packet) api.Packet {
	p.Props, p.Wills, p.User, p.Pass = bare(p.Props), slices.Clone(bare(p.Wills)), bare(p.User), bare(p.Pass)
	p.Subs, p.Filters, p.Codes = bare(p.Subs), bare(p.Filters), bare(p.Codes)
	for i := range p.Wills {
		p.Wills[i].Props = bare(p.Wills[i].Props)
	}
	return p
}

func same(p, q api.Packet) bool { return reflect.DeepEqual(plainly(p), plainly(q)) }

func show(what any) string { return fmt.Sprintf("%.300q", fmt.Sprintf("%+v", what)) }

func wantErrno(t *testing.T, what any, e error, want api.Errno) {
	t.Helper()
	var n api.Errno
	if !errors.As(e, &n) || n != want {
		t.Errorf("%s: error %v, want %v", show(what), e, want)
	}
	var f *api.Fault
	if !errors.As(e, &f) || f.Layer != "packet" {
		t.Errorf("%s: error %v does not tell its layer", show(what), e)
	}
}

func wantBytes(t *testing.T, p api.Packet, want string) {
	t.Helper()
	b, e := Encode(p)
	if e != nil || string(b) != want {
		t.Errorf("Encode(%s) = %.60x, %v, want %.60x", show(p), b, e, want)
	}
}

func wantPacket(t *testing.T, b []byte, want api.Packet) {
	t.Helper()
	for _, behind := range behinds {
		p, size, e := Decode(append(bytes.Clone(b), behind...))
		if e != nil || size != len(b) || !same(p, want) {
			t.Errorf("Decode(%.60x with %x behind) = %s, %d, %v", b, behind, show(p), size, e)
		}
	}
}

// wantTaken: p may be, and is what its bytes tell.
func wantTaken(t *testing.T, p api.Packet) {
	t.Helper()
	b, e := Encode(p)
	if e != nil {
		t.Errorf("Encode(%s): %v", show(p), e)
		return
	}
	wantPacket(t, b, p)
}

func wantRefused(t *testing.T, p api.Packet, want api.Errno) {
	t.Helper()
	b, e := Encode(p)
	wantErrno(t, p, e, want)
	if len(b) != 0 {
		t.Errorf("Encode(%s) tells %.60x beside its error", show(p), b)
	}
}

func wantNone(t *testing.T, b []byte, want api.Errno) {
	t.Helper()
	p, size, e := Decode(b)
	wantErrno(t, b, e, want)
	if !same(p, api.Packet{}) || size != 0 {
		t.Errorf("Decode(%.60x) tells %s, %d beside its error", b, show(p), size)
	}
}

// wantNoneAtAll: whatever stands behind.
func wantNoneAtAll(t *testing.T, b []byte, want api.Errno) {
	t.Helper()
	for _, behind := range behinds {
		wantNone(t, append(bytes.Clone(b), behind...), want)
	}
}

func TestPacketsAndTheirBytes(t *testing.T) { // P4.1, P4.2, P4.3
	for _, s := range good {
		wantBytes(t, s.p, s.want)
		wantPacket(t, []byte(s.want), s.p)
	}
	// A length of two bytes, and of three.
	for _, n := range []int{123, 124, 125, 126, 16378, 16379, 16380, 16381} {
		payload := strings.Repeat("x", n)
		want := string(told(0x30, "\x00\x01t\x00"+payload))
		wantBytes(t, api.Packet{Kind: api.Publish, Topic: "t", Payload: payload}, want)
		wantPacket(t, []byte(want), api.Packet{Kind: api.Publish, Topic: "t", Payload: payload})
	}
}

func TestEmptyListsAreNone(t *testing.T) { // P4.1
	for kind := api.Connect; kind <= api.Auth; kind++ {
		p := plain(kind)
		want, _ := Encode(p)
		q := p
		q.Props, q.Wills, q.User, q.Pass = []api.Prop{}, []api.Will{}, []string{}, []string{}
		if len(q.Subs) == 0 {
			q.Subs = []api.Sub{}
		}
		if len(q.Filters) == 0 {
			q.Filters = []string{}
		}
		if len(q.Codes) == 0 {
			q.Codes = []int{}
		}
		wantBytes(t, q, string(want))
	}
}

func TestKindsThatAreNone(t *testing.T) { // P4.1
	kinds := []int{math.MinInt, -16, -15, -13, -12, -4, -3, -2, -1, 0, 16, 17, 18, 19, 20, 28, 29, 30, 31, 32, 64, 256, 256 + api.Pingreq, 1<<32 + api.Pingreq, math.MaxInt}
	for _, kind := range kinds {
		wantRefused(t, api.Packet{Kind: kind}, api.ErrForm)
		wantRefused(t, api.Packet{Kind: kind, ID: 1}, api.ErrForm)
	}
}

// mayBegin tells by the document whether a packet may begin with the byte.
func mayBegin(first int) bool {
	kind, flags := first/16, first%16
	switch kind {
	case 0:
		return false
	case api.Publish:
		return slices.Contains([]int{0, 1, 2, 3, 4, 5, 10, 11, 12, 13}, flags)
	case api.Pubrel, api.Subscribe, api.Unsubscribe:
		return flags == 2
	}
	return flags == 0
}

func TestEachFirstByte(t *testing.T) { // P4.2
	whole := map[int]string{}
	for _, s := range good {
		whole[s.p.Kind] = s.want[1:]
	}
	for first := range 256 {
		b := []byte{byte(first)}
		if mayBegin(first) {
			wantNone(t, b, api.ErrShort)
			continue
		}
		wantNone(t, b, api.ErrForm)
		for _, rest := range []string{whole[first/16], "\x00", "\x02\x00\x01", "\x80", "\x80\x00", "\xff\xff\xff\xff", "\xff\xff\xff\x7f", "\xff\xff\x03", "\x05a"} {
			wantNone(t, append(b, rest...), api.ErrForm)
		}
	}
}

func TestFlagsOfPublish(t *testing.T) { // P4.1, P4.2
	for _, qos := range []int{math.MinInt, -4, -3, -2, -1, 0, 1, 2, 3, 4, 5, 6, 8, 256, 1 << 32, math.MaxInt} {
		for flags := range 4 {
			p := api.Packet{Kind: api.Publish, QoS: qos, Dup: flags&2 != 0, Retain: flags&1 != 0, Topic: "t", Payload: "pp"}
			for _, id := range []int{0, 9} {
				p.ID = id
				if qos < 0 || qos > 2 || p.Dup && qos == 0 || (qos > 0) != (id > 0) {
					wantRefused(t, p, api.ErrForm)
					continue
				}
				body := "\x00\x01t" + map[bool]string{true: "\x00\x09"}[qos > 0] + "\x00pp"
				first := 0x30 + 2*qos + flags&1 + flags&2*4
				wantBytes(t, p, string(told(byte(first), body)))
				wantPacket(t, told(byte(first), body), p)
			}
		}
	}
}

func TestIDs(t *testing.T) { // P4.1, P4.2
	for _, kind := range kindsWith("ID") {
		p := plain(kind)
		if kind == api.Publish {
			p.QoS = 1
		}
		for _, id := range append([]int{0, 65536, 65537, 1<<16 + 255, 1 << 32, 1<<32 + 1, math.MaxInt}, badNumbers...) {
			p.ID = id
			wantRefused(t, p, api.ErrForm)
		}
		for _, id := range []int{1, 2, 255, 256, 257, 0x1234, 65280, 65534, 65535} {
			p.ID = id
			wantTaken(t, p)
			at := map[bool]int{true: 4, false: 2}[kind == api.Publish]
			b, _ := Encode(p)
			if string(b[at:at+2]) != string([]byte{byte(id >> 8), byte(id)}) {
				t.Errorf("kind %d: ID %d is told by %x", kind, id, b)
			}
			b[at], b[at+1] = 0, 0
			wantNoneAtAll(t, b, api.ErrForm)
		}
	}
}

func TestCodes(t *testing.T) { // P4.1, P4.2
	bad := append([]int{256, 257, 511, 512, 65536, 1 << 32, math.MaxInt}, badNumbers...)
	for _, kind := range kindsWith("Code") {
		for _, props := range [][]api.Prop{nil, pair} {
			p := plain(kind)
			p.Props = props
			for code := range 256 {
				p.Code = code
				wantTaken(t, p)
			}
			for _, code := range bad {
				p.Code = code
				wantRefused(t, p, api.ErrForm)
			}
		}
	}
	for _, kind := range kindsWith("Codes") {
		p := plain(kind)
		for code := range 256 {
			p.Codes = []int{code}
			wantTaken(t, p)
			p.Codes = []int{7, code, 255 - code}
			wantTaken(t, p)
		}
		for _, code := range bad {
			for _, l := range [][]int{{code}, {0, code}, {code, 0}, {0, code, 255}} {
				p.Codes = l
				wantRefused(t, p, api.ErrForm)
			}
		}
	}
}

// TestCodeAndPropsLeftOut: told as short as may be, read however they stand.
func TestCodeAndPropsLeftOut(t *testing.T) { // P4.1, P4.2
	for _, c := range []struct {
		kind  int
		first byte
		ahead string
	}{
		{api.Puback, 0x40, "\x00\x01"}, {api.Pubrec, 0x50, "\x00\x01"}, {api.Pubrel, 0x62, "\x00\x01"}, {api.Pubcomp, 0x70, "\x00\x01"},
		{api.Disconnect, 0xe0, ""}, {api.Auth, 0xf0, ""},
	} {
		p := plain(c.kind)
		wantBytes(t, p, string(told(c.first, c.ahead)))
		wantPacket(t, told(c.first, c.ahead), p)
		wantPacket(t, told(c.first, c.ahead+"\x00"), p)
		wantPacket(t, told(c.first, c.ahead+"\x00\x00"), p)
		wantNoneAtAll(t, told(c.first, c.ahead+"\x00\x00\x00"), api.ErrForm)
		p.Code = 0x81
		wantBytes(t, p, string(told(c.first, c.ahead+"\x81")))
		wantPacket(t, told(c.first, c.ahead+"\x81"), p)
		wantPacket(t, told(c.first, c.ahead+"\x81\x00"), p)
		wantNoneAtAll(t, told(c.first, c.ahead+"\x81\x00\x00"), api.ErrForm)
		wantNoneAtAll(t, told(c.first, c.ahead+"\x81\x80\x00"), api.ErrForm)
		p.Props = pair
		wantBytes(t, p, string(told(c.first, c.ahead+"\x81"+pairBytes)))
		wantPacket(t, told(c.first, c.ahead+"\x81"+pairBytes), p)
		wantNoneAtAll(t, told(c.first, c.ahead+"\x81"+pairBytes+"\x00"), api.ErrForm)
		p.Code = 0
		wantBytes(t, p, string(told(c.first, c.ahead+"\x00"+pairBytes)))
		wantPacket(t, told(c.first, c.ahead+"\x00"+pairBytes), p)
	}
	// Elsewhere they are not left out.
	wantNoneAtAll(t, told(0x20, "\x00\x00"), api.ErrForm)
	wantNoneAtAll(t, told(0x20, "\x00"), api.ErrForm)
	wantNoneAtAll(t, told(0x30, "\x00\x01t"), api.ErrForm)
}

// someProps: each property that is one, and some that are none.
func someProps() [][]api.Prop {
	l := [][]api.Prop{pair, {pair[0], pair[0]}, {{ID: 0x26, Str: "\xff"}}, {{ID: 0x0b, Num: 1}, {ID: 0x0b, Num: 2}}}
	for id := range 0x30 {
		l = append(l, []api.Prop{{ID: id, Num: 1}}, []api.Prop{{ID: id, Num: 2}}, []api.Prop{{ID: id, Str: "s"}}, []api.Prop{{ID: id}, {ID: id}})
	}
	return l
}

func TestPropsByTheirPlace(t *testing.T) { // P4.1, P4.2
	for _, props := range someProps() {
		for kind := api.Connect; kind <= api.Auth; kind++ {
			p := plain(kind)
			p.Props = props
			if has(kind, "Props") && prop.Check(props, kind) == nil {
				wantTaken(t, p)
			} else {
				wantRefused(t, p, api.ErrForm)
			}
		}
		p := api.Packet{Kind: api.Connect, Wills: []api.Will{{Topic: "w", Props: props}}}
		if prop.Check(props, 16) == nil {
			wantTaken(t, p)
		} else {
			wantRefused(t, p, api.ErrForm)
		}
	}
}

// TestBytesOfPropsByTheirPlace: each ID of one byte, within each kind's body.
func TestBytesOfPropsByTheirPlace(t *testing.T) { // P4.2
	values := []string{"", "\x01", "\x00\x01", "\x00\x00\x00\x01", "\x00\x01s", "\x00\x01s\x00\x01s"}
	for id := range 0x80 {
		for _, v := range values {
			b := string([]byte{byte(1 + len(v)), byte(id)}) + v
			for kind, wrap := range map[int]func(string) []byte{
				api.Connect:     func(s string) []byte { return told(0x10, hello+"\x00\x00\x00"+s+"\x00\x00") },
				16:              func(s string) []byte { return told(0x10, hello+"\x04\x00\x00\x00\x00\x00"+s+"\x00\x00\x00\x00") },
				api.Connack:     func(s string) []byte { return told(0x20, "\x00\x00"+s) },
				api.Publish:     func(s string) []byte { return told(0x30, "\x00\x00"+s+"pay") },
				api.Puback:      func(s string) []byte { return told(0x40, "\x00\x01\x00"+s) },
				api.Pubrec:      func(s string) []byte { return told(0x50, "\x00\x01\x00"+s) },
				api.Pubrel:      func(s string) []byte { return told(0x62, "\x00\x01\x00"+s) },
				api.Pubcomp:     func(s string) []byte { return told(0x70, "\x00\x01\x00"+s) },
				api.Subscribe:   func(s string) []byte { return told(0x82, "\x00\x01"+s+"\x00\x00\x00") },
				api.Suback:      func(s string) []byte { return told(0x90, "\x00\x01"+s+"\x00") },
				api.Unsubscribe: func(s string) []byte { return told(0xa2, "\x00\x01"+s+"\x00\x00") },
				api.Unsuback:    func(s string) []byte { return told(0xb0, "\x00\x01"+s+"\x00") },
				api.Disconnect:  func(s string) []byte { return told(0xe0, "\x00"+s) },
				api.Auth:        func(s string) []byte { return told(0xf0, "\x00"+s) },
			} {
				want, _, bad := prop.Get([]byte(b), kind)
				if bad != nil {
					wantNoneAtAll(t, wrap(b), api.ErrForm)
					continue
				}
				p, size, e := Decode(wrap(b))
				got := p.Props
				if kind == 16 && len(p.Wills) == 1 {
					got = p.Wills[0].Props
				}
				if e != nil || size != len(wrap(b)) || !slices.Equal(got, want) {
					t.Errorf("Decode(%x) = %s, %d, %v", wrap(b), show(p), size, e)
				}
			}
		}
	}
}

func TestHowManyProps(t *testing.T) { // P4.1, P4.2
	most, over := slices.Repeat(pair, api.MaxProps), slices.Repeat(pair, api.MaxProps+1)
	for _, kind := range kindsWith("Props") {
		p := plain(kind)
		p.Props = most
		wantTaken(t, p)
		p.Props = over
		wantRefused(t, p, api.ErrForm)
	}
	wantTaken(t, api.Packet{Kind: api.Connect, Wills: []api.Will{{Props: most}}})
	wantRefused(t, api.Packet{Kind: api.Connect, Wills: []api.Will{{Props: over}}}, api.ErrForm)
	b := strings.Repeat(pairBytes[1:], api.MaxProps+1)
	b = groups(len(b)) + b
	wantNoneAtAll(t, told(0x30, "\x00\x00"+b), api.ErrForm)
	wantNoneAtAll(t, told(0x40, "\x00\x01\x00"+b), api.ErrForm)
	wantNoneAtAll(t, told(0x10, hello+"\x00\x00\x00"+b+"\x00\x00"), api.ErrForm)
	wantNoneAtAll(t, told(0x10, hello+"\x04\x00\x00\x00\x00\x00"+b+"\x00\x00\x00\x00"), api.ErrForm)
}
