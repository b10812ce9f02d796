package packet

import (
	"dovecote/api"
	"dovecote/prop"
	"dovecote/text"
)

// writer makes a packet's body. What it has told of the packet it takes out of it: what is left in the end, the kind has no use for.
type writer struct {
	left api.Packet
	body []byte
	size int   // of the body: behind MaxPacket its bytes are counted alone, as nobody gets them
	e    error // the first one
}

func (w *writer) packet() {
	p := &w.left
	switch p.Kind {
	case api.Connect:
		w.connect()
	case api.Connack:
		w.one(flag(take(&p.Session), 1))
		w.one(take(&p.Code))
		w.props(take(&p.Props), p.Kind)
	case api.Publish:
		w.publish()
	case api.Subscribe, api.Unsubscribe, api.Suback, api.Unsuback:
		w.id(take(&p.ID))
		w.props(take(&p.Props), p.Kind)
		w.list()
	case api.Puback, api.Pubrec, api.Pubrel, api.Pubcomp:
		w.id(take(&p.ID))
		fallthrough
	case api.Disconnect, api.Auth:
		w.reason()
	}
	w.must(empty(w.left))
}

func (w *writer) connect() {
	p := &w.left
	flags, ok := connectFlags(*p)
	w.must(ok)
	p.Clean = false
	w.text(protocol)
	w.one(version)
	w.one(flags)
	w.two(take(&p.Keep))
	w.props(take(&p.Props), p.Kind)
	w.text(take(&p.Client))
	for _, will := range take(&p.Wills) {
		w.props(will.Props, willPlace)
		w.text(will.Topic)
		w.bin(will.Payload)
	}
	for _, user := range take(&p.User) {
		w.text(user)
	}
	for _, pass := range take(&p.Pass) {
		w.bin(pass)
	}
}

func (w *writer) publish() {
	p := &w.left
	p.Dup, p.Retain = false, false
	w.text(take(&p.Topic))
	if take(&p.QoS) > 0 {
		w.id(take(&p.ID))
	}
	w.props(take(&p.Props), p.Kind)
	payload := take(&p.Payload)
	if w.room(len(payload)) {
		w.body = append(w.body, payload...)
	}
}

// list tells what a packet has of each filter.
func (w *writer) list() {
	p := &w.left
	switch p.Kind {
	case api.Subscribe:
		subs := take(&p.Subs)
		w.must(mayCount(len(subs)))
		for _, s := range subs {
			w.sub(s)
		}
	case api.Unsubscribe:
		filters := take(&p.Filters)
		w.must(mayCount(len(filters)))
		for _, s := range filters {
			w.text(s)
		}
	default:
		codes := take(&p.Codes)
		w.must(mayCount(len(codes)))
		for _, c := range codes {
			w.one(c)
		}
	}
}

func (w *writer) sub(s api.Sub) {
	options, ok := optionsOf(s)
	w.must(ok)
	w.text(s.Filter)
	w.one(options)
}

// reason tells Code and Props, as far as they may not be left out.
func (w *writer) reason() {
	code, props := take(&w.left.Code), take(&w.left.Props)
	if code != 0 || len(props) > 0 {
		w.one(code)
	}
	if len(props) > 0 {
		w.props(props, w.left.Kind)
	}
}

func (w *writer) id(n int) {
	w.must(n != 0)
	w.two(n)
}

func (w *writer) one(n int) {
	w.must(n >= 0 && n < 1<<8)
	w.add([]byte{byte(n)}, nil)
}

func (w *writer) two(n int) {
	w.must(n >= 0 && n < 1<<16)
	w.add([]byte{byte(n >> 8), byte(n)}, nil)
}

func (w *writer) text(s string) {
	w.add(text.Put(s))
}

func (w *writer) bin(s string) {
	w.add(text.PutBin(s))
}

func (w *writer) props(l []api.Prop, place int) {
	w.add(prop.Put(l, place))
}

func (w *writer) add(b []byte, e error) {
	w.fail(e)
	if w.room(len(b)) {
		w.body = append(w.body, b...)
	}
}

// room counts n more bytes, and tells whether they are to be kept.
func (w *writer) room(n int) bool {
	w.size += n
	return w.size <= api.MaxPacket
}

func (w *writer) must(ok bool) {
	if !ok {
		w.fail(api.ErrForm)
	}
}

func (w *writer) fail(e error) {
	if w.e == nil {
		w.e = e
	}
}

// take tells what stands there, and leaves nothing of it.
func take[T any](from *T) T {
	var nothing T
	v := *from
	*from = nothing
	return v
}

// empty tells whether p has nothing but its kind.
func empty(p api.Packet) bool {
	flags := p.Dup || p.Retain || p.Clean || p.Session
	numbers := p.QoS | p.ID | p.Keep | p.Code
	texts := len(p.Topic) + len(p.Payload) + len(p.Client)
	lists := len(p.Props) + len(p.Wills) + len(p.User) + len(p.Pass) + len(p.Subs) + len(p.Filters) + len(p.Codes)
	return !flags && numbers == 0 && texts == 0 && lists == 0
}
