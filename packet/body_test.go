package packet

import (
	"bytes"
	"math"
	"slices"
	"strings"
	"testing"

	"dovecote/api"
)

// TestEachByteOfConnectFlags: with what the flags tell to come behind it.
func TestEachByteOfConnectFlags(t *testing.T) { // P4.1, P4.2
	for flags := range 256 {
		p := api.Packet{Kind: api.Connect, Client: "c", Keep: 3, Clean: flags&2 != 0}
		body := hello + string([]byte{byte(flags)}) + "\x00\x03\x00\x00\x01c"
		qos := flags / 8 % 4
		if flags&4 != 0 {
			p.Wills = []api.Will{{Topic: "w", Payload: "pp", QoS: qos, Retain: flags&32 != 0}}
			body += "\x00\x00\x01w\x00\x02pp"
		}
		if flags&128 != 0 {
			p.User = []string{"u"}
			body += "\x00\x01u"
		}
		if flags&64 != 0 {
			p.Pass = []string{"\xfe"}
			body += "\x00\x01\xfe"
		}
		if flags&1 != 0 || qos == 3 || flags&4 == 0 && flags&(32+16+8) != 0 {
			wantNoneAtAll(t, told(0x10, body), api.ErrForm)
			continue
		}
		wantBytes(t, p, string(told(0x10, body)))
		wantPacket(t, told(0x10, body), p)
	}
}

func TestConnectsThatAreNone(t *testing.T) { // P4.1
	for _, qos := range []int{math.MinInt, -8, -2, -1, 3, 4, 5, 8, 16, 32, 256, 1 << 32, 1 << 61, math.MaxInt} {
		wantRefused(t, api.Packet{Kind: api.Connect, Wills: []api.Will{{QoS: qos}}}, api.ErrForm)
		wantRefused(t, api.Packet{Kind: api.Connect, Wills: []api.Will{{QoS: qos, Retain: true}}}, api.ErrForm)
	}
	for _, n := range []int{2, 3, 17} {
		wantRefused(t, api.Packet{Kind: api.Connect, Wills: make([]api.Will, n)}, api.ErrForm)
		wantRefused(t, api.Packet{Kind: api.Connect, User: make([]string, n)}, api.ErrForm)
		wantRefused(t, api.Packet{Kind: api.Connect, Pass: make([]string, n)}, api.ErrForm)
	}
	for _, keep := range append([]int{65536, 65537, 1 << 32, math.MaxInt}, badNumbers...) {
		wantRefused(t, api.Packet{Kind: api.Connect, Keep: keep}, api.ErrForm)
	}
	for _, keep := range []int{0, 1, 255, 256, 65534, 65535} {
		wantTaken(t, api.Packet{Kind: api.Connect, Keep: keep})
	}
}

func TestProtocolNameAndVersion(t *testing.T) { // P4.2
	rest := "\x00\x00\x00\x00\x00\x00"
	for _, name := range []string{"", "M", "MQT", "mqtt", "MQTS", "NQTT", "MQTT ", "MQTTT", "MQIsdp", "\x00QTT", "MQT\xff"} {
		wantNoneAtAll(t, told(0x10, lengthy(name)+"\x05"+rest), api.ErrForm)
	}
	for version := range 256 {
		b := told(0x10, "\x00\x04MQTT"+string([]byte{byte(version)})+rest)
		if version == 5 {
			wantPacket(t, b, api.Packet{Kind: api.Connect})
		} else {
			wantNoneAtAll(t, b, api.ErrForm)
		}
	}
}

func TestEachByteOfConnack(t *testing.T) { // P4.2
	for session := range 256 {
		for _, code := range []int{0, 1, 0x80, 255} {
			b := told(0x20, string([]byte{byte(session), byte(code), 0}))
			if session <= 1 {
				wantPacket(t, b, api.Packet{Kind: api.Connack, Session: session == 1, Code: code})
			} else {
				wantNoneAtAll(t, b, api.ErrForm)
			}
		}
	}
}

func TestEachByteOfOptions(t *testing.T) { // P4.1, P4.2
	for options := range 256 {
		s := api.Sub{Filter: "f", QoS: options % 4, NoLocal: options&4 != 0, AsPub: options&8 != 0, Handling: options / 16}
		one := "\x00\x01f" + string([]byte{byte(options)})
		other := "\x00\x00\x00"
		subs := [][]api.Sub{{s}, {s, {}}, {{}, s}}
		for i, body := range []string{one, one + other, other + one} {
			p, b := api.Packet{Kind: api.Subscribe, ID: 2, Subs: subs[i]}, told(0x82, "\x00\x02\x00"+body)
			if s.QoS == 3 || s.Handling > 2 {
				wantRefused(t, p, api.ErrForm)
				wantNoneAtAll(t, b, api.ErrForm)
				continue
			}
			wantBytes(t, p, string(b))
			wantPacket(t, b, p)
		}
	}
	for _, n := range []int{math.MinInt, -16, -2, -1, 3, 4, 5, 8, 16, 256, 1 << 32, 1 << 60, math.MaxInt} {
		for _, s := range []api.Sub{{QoS: n}, {Handling: n}, {QoS: n, Handling: n}, {QoS: 2, Handling: n}, {QoS: n, Handling: 2}} {
			wantRefused(t, api.Packet{Kind: api.Subscribe, ID: 1, Subs: []api.Sub{s}}, api.ErrForm)
			wantRefused(t, api.Packet{Kind: api.Subscribe, ID: 1, Subs: []api.Sub{{}, s, {}}}, api.ErrForm)
		}
	}
}

func TestHowManyFilters(t *testing.T) { // P4.1, P4.2
	for _, n := range []int{0, 1, 2, api.MaxSubs - 1, api.MaxSubs, api.MaxSubs + 1, api.MaxSubs + 2, 2 * api.MaxSubs, 256, 256 + 1} {
		for _, c := range []struct {
			p     api.Packet
			first byte
			one   string
		}{
			{api.Packet{Kind: api.Subscribe, ID: 1, Subs: slices.Repeat([]api.Sub{{Filter: "f", QoS: 1}}, n)}, 0x82, "\x00\x01f\x01"},
			{api.Packet{Kind: api.Unsubscribe, ID: 1, Filters: slices.Repeat([]string{"f"}, n)}, 0xa2, "\x00\x01f"},
			{api.Packet{Kind: api.Suback, ID: 1, Codes: slices.Repeat([]int{2}, n)}, 0x90, "\x02"},
			{api.Packet{Kind: api.Unsuback, ID: 1, Codes: slices.Repeat([]int{2}, n)}, 0xb0, "\x02"},
		} {
			b := told(c.first, "\x00\x01\x00"+strings.Repeat(c.one, n))
			if n >= 1 && n <= api.MaxSubs {
				wantBytes(t, c.p, string(b))
				wantPacket(t, b, c.p)
				continue
			}
			wantRefused(t, c.p, api.ErrForm)
			wantNoneAtAll(t, b, api.ErrForm)
		}
	}
}

// texts: each place of a text, with the packet's bytes; binary: of one that need be no text.
var texts = []struct {
	binary bool
	p      func(s string) api.Packet
	bytes  func(s string) []byte
}{
	{false,
		func(s string) api.Packet { return api.Packet{Kind: api.Publish, Topic: s} },
		func(s string) []byte { return told(0x30, s+"\x00") }},
	{false,
		func(s string) api.Packet { return api.Packet{Kind: api.Publish, Topic: s, QoS: 2, ID: 1, Payload: "p"} },
		func(s string) []byte { return told(0x34, s+"\x00\x01\x00p") }},
	{false,
		func(s string) api.Packet { return api.Packet{Kind: api.Connect, Client: s} },
		func(s string) []byte { return told(0x10, hello+"\x00\x00\x00\x00"+s) }},
	{false,
		func(s string) api.Packet { return api.Packet{Kind: api.Connect, User: []string{s}} },
		func(s string) []byte { return told(0x10, hello+"\x80\x00\x00\x00\x00\x00"+s) }},
	{true,
		func(s string) api.Packet { return api.Packet{Kind: api.Connect, Pass: []string{s}} },
		func(s string) []byte { return told(0x10, hello+"\x40\x00\x00\x00\x00\x00"+s) }},
	{false,
		func(s string) api.Packet { return api.Packet{Kind: api.Connect, Wills: []api.Will{{Topic: s}}} },
		func(s string) []byte { return told(0x10, hello+"\x04\x00\x00\x00\x00\x00\x00"+s+"\x00\x00") }},
	{true,
		func(s string) api.Packet { return api.Packet{Kind: api.Connect, Wills: []api.Will{{Payload: s}}} },
		func(s string) []byte { return told(0x10, hello+"\x04\x00\x00\x00\x00\x00\x00\x00\x00"+s) }},
	{false,
		func(s string) api.Packet {
			return api.Packet{Kind: api.Subscribe, ID: 1, Subs: []api.Sub{{Filter: s}, {Filter: "g"}}}
		},
		func(s string) []byte { return told(0x82, "\x00\x01\x00"+s+"\x00\x00\x01g\x00") }},
	{false,
		func(s string) api.Packet {
			return api.Packet{Kind: api.Subscribe, ID: 1, Subs: []api.Sub{{Filter: "g"}, {Filter: s}}}
		},
		func(s string) []byte { return told(0x82, "\x00\x01\x00\x00\x01g\x00"+s+"\x00") }},
	{false,
		func(s string) api.Packet {
			return api.Packet{Kind: api.Unsubscribe, ID: 1, Filters: []string{s, "g"}}
		},
		func(s string) []byte { return told(0xa2, "\x00\x01\x00"+s+"\x00\x01g") }},
	{false,
		func(s string) api.Packet {
			return api.Packet{Kind: api.Unsubscribe, ID: 1, Filters: []string{"g", s}}
		},
		func(s string) []byte { return told(0xa2, "\x00\x01\x00\x00\x01g"+s) }},
}

func TestTexts(t *testing.T) { // P4.1, P4.2
	full := strings.Repeat("x", api.MaxText)
	for _, c := range texts {
		for _, s := range []string{"", "a", "a/+/#", "#/x+", "$share//", "é€𐍈", "\U0010ffff", full[:255], full[:256], full[:60000]} {
			wantBytes(t, c.p(s), string(c.bytes(lengthy(s))))
			wantPacket(t, c.bytes(lengthy(s)), c.p(s))
		}
		for _, s := range noTexts {
			if c.binary {
				wantBytes(t, c.p(s), string(c.bytes(lengthy(s))))
				wantPacket(t, c.bytes(lengthy(s)), c.p(s))
				continue
			}
			wantRefused(t, c.p(s), api.ErrForm)
			wantNoneAtAll(t, c.bytes(lengthy(s)), api.ErrForm)
		}
		// One of MaxText may be, but no packet has room for it.
		wantRefused(t, c.p(full), api.ErrLimit)
		for _, s := range []string{full + "x", full + full} {
			wantRefused(t, c.p(s), api.ErrForm)
		}
		// Its length tells more than the body has.
		for _, s := range []string{"\x00", "\xff\xff", "\x01\x00a"} {
			wantNoneAtAll(t, c.bytes(s), api.ErrForm)
		}
	}
}

// fields: for each field a packet whose value there is not 0 or empty.
var fields = map[string][]api.Packet{
	"Dup":     {{Dup: true}},
	"QoS":     {{QoS: 1}, {QoS: 2}, {QoS: -1}, {QoS: math.MinInt}},
	"Retain":  {{Retain: true}},
	"Topic":   {{Topic: "t"}, {Topic: "\x00"}},
	"ID":      {{ID: 1}, {ID: -1}, {ID: 1 << 16}, {ID: math.MinInt}},
	"Payload": {{Payload: "p"}},
	"Props":   {{Props: pair}, {Props: []api.Prop{{}}}},
	"Client":  {{Client: "c"}},
	"Clean":   {{Clean: true}},
	"Keep":    {{Keep: 1}, {Keep: -1}, {Keep: 1 << 16}},
	"Wills":   {{Wills: []api.Will{{}}}, {Wills: []api.Will{{Topic: "w"}}}},
	"User":    {{User: []string{""}}, {User: []string{"u"}}},
	"Pass":    {{Pass: []string{""}}, {Pass: []string{"p"}}},
	"Code":    {{Code: 1}, {Code: -1}, {Code: 256}},
	"Session": {{Session: true}},
	"Subs":    {{Subs: []api.Sub{{}}}, {Subs: []api.Sub{{Filter: "f"}}}},
	"Filters": {{Filters: []string{""}}, {Filters: []string{"f"}}},
	"Codes":   {{Codes: []int{0}}, {Codes: []int{1}}},
}

// with is p and that field of q.
func with(p, q api.Packet, field string) api.Packet {
	switch field {
	case "Dup":
		p.Dup = q.Dup
	case "QoS":
		p.QoS = q.QoS
	case "Retain":
		p.Retain = q.Retain
	case "Topic":
		p.Topic = q.Topic
	case "ID":
		p.ID = q.ID
	case "Payload":
		p.Payload = q.Payload
	case "Props":
		p.Props = q.Props
	case "Client":
		p.Client = q.Client
	case "Clean":
		p.Clean = q.Clean
	case "Keep":
		p.Keep = q.Keep
	case "Wills":
		p.Wills = q.Wills
	case "User":
		p.User = q.User
	case "Pass":
		p.Pass = q.Pass
	case "Code":
		p.Code = q.Code
	case "Session":
		p.Session = q.Session
	case "Subs":
		p.Subs = q.Subs
	case "Filters":
		p.Filters = q.Filters
	case "Codes":
		p.Codes = q.Codes
	}
	return p
}

func TestFieldsWithoutUse(t *testing.T) { // P4.1
	if len(fields) != 18 {
		t.Fatalf("%d fields", len(fields))
	}
	for _, s := range good {
		for field, values := range fields {
			for _, q := range values {
				if !has(s.p.Kind, field) {
					wantRefused(t, with(s.p, q, field), api.ErrForm)
				}
			}
		}
	}
	// Two that could undo each other.
	for one, firsts := range fields {
		for other, seconds := range fields {
			for _, q := range firsts {
				for _, r := range seconds {
					p := with(with(api.Packet{Kind: api.Pingreq}, q, one), r, other)
					wantRefused(t, p, api.ErrForm)
				}
			}
		}
	}
	wantRefused(t, api.Packet{Kind: api.Pingreq, ID: 1, Code: -1}, api.ErrForm)
	wantRefused(t, api.Packet{Kind: api.Pingresp, QoS: 1, Keep: -1}, api.ErrForm)
	wantRefused(t, api.Packet{Kind: api.Connack, ID: 5, QoS: -5}, api.ErrForm)
	// Without QoS a Publish has no ID.
	for _, id := range []int{math.MinInt, -1, 1, 65535, 65536} {
		wantRefused(t, api.Packet{Kind: api.Publish, Topic: "t", ID: id}, api.ErrForm)
	}
}

func TestPacketsOfMaxPacket(t *testing.T) { // P4.1, P4.2
	for _, c := range texts {
		head := len(c.bytes(lengthy(strings.Repeat("x", 60000)))) - 60000
		full := strings.Repeat("x", api.MaxPacket-head)
		wantBytes(t, c.p(full), string(c.bytes(lengthy(full))))
		wantPacket(t, c.bytes(lengthy(full)), c.p(full))
		wantRefused(t, c.p(full+"x"), api.ErrLimit)
		wantRefused(t, c.p(full+"xx"), api.ErrLimit)
		wantNoneAtAll(t, c.bytes(lengthy(full+"x")), api.ErrLimit)
	}
	p := api.Packet{Kind: api.Publish, Topic: "t", Payload: strings.Repeat("\xff", api.MaxPacket-8)}
	wantBytes(t, p, string(told(0x30, "\x00\x01t\x00"+p.Payload)))
	wantPacket(t, told(0x30, "\x00\x01t\x00"+p.Payload), p)
	for _, more := range []int{1, 2, 3, 4, 5, 7, 8, 9, 100, api.MaxPacket, 1 << 21} {
		q := p
		q.Payload += strings.Repeat("\xff", more)
		wantRefused(t, q, api.ErrLimit)
		wantNoneAtAll(t, told(0x30, "\x00\x01t\x00"+q.Payload), api.ErrLimit)
	}
	// Many that are too much together alone.
	half := strings.Repeat("f", api.MaxPacket/2)
	wantRefused(t, api.Packet{Kind: api.Unsubscribe, ID: 1, Filters: []string{half, half}}, api.ErrLimit)
	wantRefused(t, api.Packet{Kind: api.Subscribe, ID: 1, Subs: []api.Sub{{Filter: half}, {Filter: half}, {Filter: "f"}}}, api.ErrLimit)
	wantRefused(t, api.Packet{Kind: api.Disconnect, Props: []api.Prop{{ID: 0x26, Str: half, Val: half}}}, api.ErrLimit)
	wantRefused(t, api.Packet{Kind: api.Connect, Client: half, User: []string{half}, Pass: []string{half}}, api.ErrLimit)
}

// TestMoreThanALengthTells: the body has more bytes than varint takes.
func TestMoreThanALengthTells(t *testing.T) { // P4.1
	p := api.Packet{Kind: api.Publish, Payload: strings.Repeat("x", api.MaxVar+1)}
	wantRefused(t, p, api.ErrLimit)
	p.ID = 1
	wantRefused(t, p, api.ErrForm)
}

func TestFormAheadOfLimit(t *testing.T) { // P4.1
	big := strings.Repeat("x", api.MaxText)
	for _, p := range []api.Packet{
		{Kind: api.Publish, Payload: big, ID: 1},
		{Kind: api.Publish, Payload: big, Topic: "\x00"},
		{Kind: api.Publish, Payload: big, QoS: 3, ID: 1},
		{Kind: api.Publish, Payload: big, QoS: 1},
		{Kind: api.Publish, Payload: big, Dup: true},
		{Kind: api.Publish, Payload: big, Props: []api.Prop{{ID: 0x21, Num: 1}}},
		{Kind: api.Publish, Payload: big, Client: "c"},
		{Kind: api.Publish, Topic: big, Codes: []int{1}},
		{Kind: api.Pingreq, Payload: big},
		{Kind: api.Connect, Client: big, User: []string{"\xff"}},
		{Kind: api.Connect, Client: big, Pass: []string{big + "x"}},
		{Kind: api.Connect, Client: big, Wills: []api.Will{{QoS: 3}}},
		{Kind: api.Connect, Client: big, Wills: []api.Will{{Topic: "\x00"}}},
		{Kind: api.Connect, Client: big, Wills: []api.Will{{Payload: big + "x"}}},
		{Kind: api.Connect, Client: big, Wills: []api.Will{{Props: []api.Prop{{ID: 0x23, Num: 1}}}}},
		{Kind: api.Connect, Client: big, Session: true},
		{Kind: api.Connect, Client: big, Keep: 65536},
		{Kind: api.Connect, Client: big, User: []string{big, big}},
		{Kind: api.Subscribe, ID: 1, Subs: []api.Sub{{Filter: big}, {QoS: 3}}},
		{Kind: api.Subscribe, ID: 1, Subs: []api.Sub{{Filter: big}, {Filter: "\x00"}}},
		{Kind: api.Subscribe, Subs: []api.Sub{{Filter: big}}},
		{Kind: api.Subscribe, ID: 1, Subs: slices.Repeat([]api.Sub{{Filter: big}}, api.MaxSubs+1)},
		{Kind: api.Unsubscribe, ID: 1, Filters: []string{big, big, "\xff"}},
		{Kind: api.Unsubscribe, ID: 65536, Filters: []string{big, big}},
		{Kind: api.Disconnect, Code: 256, Props: []api.Prop{{ID: 0x1f, Str: big}}},
		{Kind: api.Puback, Props: []api.Prop{{ID: 0x1f, Str: big}}},
		{Kind: api.Puback, ID: 1, Props: slices.Repeat([]api.Prop{{ID: 0x26, Str: big}}, api.MaxProps+1)},
		{Kind: 16, Payload: big},
	} {
		wantRefused(t, p, api.ErrForm)
	}
	// As many as may be of what is long: no more than too much.
	wantRefused(t, api.Packet{Kind: api.Subscribe, ID: 1, Subs: slices.Repeat([]api.Sub{{Filter: big}}, api.MaxSubs)}, api.ErrLimit)
	wantRefused(t, api.Packet{Kind: api.Puback, ID: 1, Props: slices.Repeat([]api.Prop{{ID: 0x26, Str: big, Val: big}}, api.MaxProps)}, api.ErrLimit)
}

// TestOrderOfDecodesErrors: the kind and flags, the length, its limit, what is there, the body.
func TestOrderOfDecodesErrors(t *testing.T) { // P4.2
	wantNone(t, nil, api.ErrShort)
	wantNone(t, []byte{}, api.ErrShort)
	for _, first := range []string{"\x30", "\xc0", "\x40", "\x10", "\xe0", "\x82", "\xf0"} {
		for _, length := range []string{"", "\x80", "\xff", "\x80\x80", "\xff\xff", "\x80\x80\x80", "\xff\xff\xff"} {
			wantNone(t, []byte(first+length), api.ErrShort)
		}
		for _, length := range []string{"\x80\x00", "\x80\x80\x00", "\x80\x80\x80\x00", "\x80\x80\x80\x80", "\xff\xff\xff\xff", "\x81\x00", "\x82\x80\x00", "\xff\xff\x00", "\xff\xff\xff\x00"} {
			wantNoneAtAll(t, []byte(first+length), api.ErrForm)
			wantNoneAtAll(t, []byte(first+length+"\x00\x01\x00"), api.ErrForm)
		}
		for _, n := range []int{api.MaxPacket - 3, api.MaxPacket - 2, api.MaxPacket - 1, api.MaxPacket, api.MaxPacket + 1, 1<<21 - 1, 1 << 21, api.MaxVar} {
			wantNoneAtAll(t, []byte(first+groups(n)), api.ErrLimit)
			wantNone(t, append([]byte(first+groups(n)), make([]byte, api.MaxPacket+8)...), api.ErrLimit)
		}
		for _, n := range []int{api.MaxPacket - 4, api.MaxPacket - 5, 16384} {
			wantNoneAtAll(t, []byte(first+groups(n)), api.ErrShort)
			wantNone(t, append([]byte(first+groups(n)), make([]byte, n-1)...), api.ErrShort)
		}
	}
	// A body that is none already, but is not all there.
	for _, s := range []string{"\xc0\x02\x00", "\x40\x03\x00\x00", "\x20\x03\xff\xff", "\x10\x0d\x00\x04MQTS\x05\x02\x00\x00\x00\x00", "\x82\x07\x00\x00\x00\x00\x01a", "\x30\x05\x00\x01\x00\x00", "\x90\x14\x00\x01\x00" + strings.Repeat("\x00", 16)} {
		wantNone(t, []byte(s), api.ErrShort)
		wantNone(t, []byte(s+"\x00"), api.ErrForm)
	}
	// A great body that is none.
	wantNone(t, told(0xc0, strings.Repeat("x", api.MaxPacket-4)), api.ErrForm)
	wantNone(t, told(0xc0, strings.Repeat("x", api.MaxPacket-3)), api.ErrLimit)
}

func TestBytesThatEndTooEarly(t *testing.T) { // P4.2
	for _, s := range good {
		for k := range len(s.want) {
			wantNone(t, []byte(s.want[:k]), api.ErrShort)
		}
	}
	big := told(0x30, "\x00\x01t\x00"+strings.Repeat("p", 20000))
	for _, k := range []int{0, 1, 2, 3, 4, 5, 8, 100, len(big) - 1} {
		wantNone(t, big[:k], api.ErrShort)
	}
}

// wholeAt tells by the document at which places the body of p may end.
func wholeAt(p api.Packet, body string) []int {
	props := func(l []api.Prop) int {
		if len(l) == 0 {
			return 1
		}
		at := strings.IndexByte(body, byte(l[0].ID)) - 1
		return 1 + int(body[at])
	}
	all := []int{len(body)}
	switch p.Kind {
	case api.Publish:
		for k := range len(p.Payload) {
			all = append(all, len(body)-1-k)
		}
	case api.Puback, api.Pubrec, api.Pubrel, api.Pubcomp:
		all = append(all, 2, 3)
	case api.Disconnect, api.Auth:
		all = append(all, 0, 1)
	case api.Subscribe:
		at := 2 + props(p.Props)
		for _, s := range p.Subs {
			at += 3 + len(s.Filter)
			all = append(all, at)
		}
	case api.Unsubscribe:
		at := 2 + props(p.Props)
		for _, s := range p.Filters {
			at += 2 + len(s)
			all = append(all, at)
		}
	case api.Suback, api.Unsuback:
		for k := range p.Codes {
			all = append(all, len(body)-k)
		}
	}
	return all
}

// TestBodiesThatEndTooEarly: within their length, whatever stands behind.
func TestBodiesThatEndTooEarly(t *testing.T) { // P4.2
	for _, s := range good {
		body := bodyOf(s)
		whole := wholeAt(s.p, body)
		for k := range len(body) {
			b := told(s.want[0], body[:k])
			if !slices.Contains(whole, k) {
				wantNoneAtAll(t, b, api.ErrForm)
				wantNone(t, append(b, body[k:]...), api.ErrForm)
			} else if p, size, e := Decode(append(b, body[k:]...)); e != nil || size != len(b) || p.Kind != s.p.Kind {
				t.Errorf("Decode(%x) = %s, %d, %v", b, show(p), size, e)
			}
		}
	}
}

// TestBodiesThatGoOnTooLong: where a body has nothing more to tell.
func TestBodiesThatGoOnTooLong(t *testing.T) { // P4.2
	for _, s := range good {
		switch s.p.Kind {
		case api.Publish, api.Subscribe, api.Unsubscribe, api.Suback, api.Unsuback:
			continue
		case api.Connect, api.Connack, api.Pingreq, api.Pingresp:
		default:
			if len(s.p.Props) == 0 {
				continue
			}
		}
		for _, more := range []string{"\x00", "\x01", "\xff", "\x00\x00", "\x00\x01x", pairBytes} {
			wantNoneAtAll(t, told(s.want[0], bodyOf(s)+more), api.ErrForm)
		}
	}
	// Behind the filters half a one.
	for _, more := range []string{"\x00", "\x00\x00", "\x00\x01", "\x00\x01x", "\x00\x02x"} {
		wantNoneAtAll(t, told(0x82, "\x00\x01\x00\x00\x01f\x00"+more), api.ErrForm)
	}
	for _, more := range []string{"\x00", "\x00\x01", "\x00\x02x", "\x01\x00x"} {
		wantNoneAtAll(t, told(0xa2, "\x00\x01\x00\x00\x01f"+more), api.ErrForm)
	}
}

func TestDecodeOfEncode(t *testing.T) { // P4.3
	for _, s := range good {
		for field, values := range fields {
			for _, q := range values {
				p := with(s.p, q, field)
				if b, e := Encode(p); e == nil {
					wantPacket(t, b, p)
				}
			}
		}
	}
}

// wantRedone: what bytes tell is told again, by the same bytes or, where Code and Props may be left out, by fewer.
func wantRedone(t *testing.T, b []byte) {
	t.Helper()
	p, size, e := Decode(b)
	if e != nil {
		return
	}
	again, e := Encode(p)
	if e != nil || size > len(b) {
		t.Fatalf("%x: %s, %d; told again: %v", b, show(p), size, e)
	}
	if bytes.Equal(again, b[:size]) {
		return
	}
	left := p.Code == 0 || len(p.Props) == 0
	if !has(p.Kind, "Code") || p.Kind == api.Connack || !left || len(again) >= size {
		t.Fatalf("%x: %s; told again: %x", b[:size], show(p), again)
	}
	if q, _, e := Decode(again); e != nil || !same(p, q) {
		t.Fatalf("%x: %s, then %s, %v", b, show(p), show(q), e)
	}
}

// TestEncodeUndoesDecode: all bytes of a small alphabet, and good bytes with one of them changed.
func TestEncodeUndoesDecode(t *testing.T) { // P4.3
	var walk func(b []byte, most int)
	walk = func(b []byte, most int) {
		wantRedone(t, b)
		if len(b) == most {
			return
		}
		for _, c := range []byte{0x00, 0x01, 0x02, 0x03, 0x04, 0x1f} {
			walk(append(b, c), most)
		}
	}
	for first := range 256 {
		if mayBegin(first) {
			walk(append(make([]byte, 0, 7), byte(first)), 7)
		}
	}
	for _, s := range good {
		for i := range len(s.want) {
			for x := range 256 {
				changed := []byte(s.want + "\x00\x01\x00")
				changed[i] = byte(x)
				wantRedone(t, changed)
			}
		}
	}
}

func TestMemoryIsNew(t *testing.T) { // R2
	for _, s := range good {
		given, kept := deep(s.p), deep(s.p)
		first, _ := Encode(given)
		want := string(first)
		clear(first[:cap(first)])
		if second, e := Encode(given); e != nil || string(second) != want {
			t.Errorf("%x, %v behind a change of what was told", second, e)
		}
		if !same(given, kept) {
			t.Errorf("what was handed in is %s", show(given))
		}
		b := []byte(want + "behind")
		p, _, _ := Decode(b)
		q, _, _ := Decode(b)
		if string(b) != want+"behind" {
			t.Errorf("what was handed in is %x", b)
		}
		clear(b)
		spoil(p)
		if !same(q, kept) {
			t.Errorf("what was told turned into %s", show(q))
		}
	}
}

func deep(p api.Packet) api.Packet {
	p.Props, p.Wills, p.User, p.Pass = slices.Clone(p.Props), slices.Clone(p.Wills), slices.Clone(p.User), slices.Clone(p.Pass)
	p.Subs, p.Filters, p.Codes = slices.Clone(p.Subs), slices.Clone(p.Filters), slices.Clone(p.Codes)
	for i := range p.Wills {
		p.Wills[i].Props = slices.Clone(p.Wills[i].Props)
	}
	return p
}

func spoil(p api.Packet) {
	for _, w := range p.Wills {
		clear(w.Props[:cap(w.Props)])
	}
	clear(p.Props[:cap(p.Props)])
	clear(p.Wills[:cap(p.Wills)])
	clear(p.User[:cap(p.User)])
	clear(p.Pass[:cap(p.Pass)])
	clear(p.Subs[:cap(p.Subs)])
	clear(p.Filters[:cap(p.Filters)])
	clear(p.Codes[:cap(p.Codes)])
}
