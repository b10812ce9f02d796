package packet

import (
	"dovecote/api"
	"dovecote/prop"
	"dovecote/text"
)

// reader reads a packet's body. Behind an error it reads on and finds what it likes: the packet is none.
type reader struct {
	p    api.Packet
	rest []byte
	e    error // the first one
}

func (r *reader) packet() {
	p := &r.p
	switch p.Kind {
	case api.Connect:
		r.connect()
	case api.Connack:
		session := r.one()
		r.must(session <= 1)
		p.Session = session == 1
		p.Code = r.one()
		p.Props = r.props(p.Kind)
	case api.Publish:
		r.publish()
	case api.Subscribe, api.Unsubscribe, api.Suback, api.Unsuback:
		p.ID = r.id()
		p.Props = r.props(p.Kind)
		r.list()
	case api.Puback, api.Pubrec, api.Pubrel, api.Pubcomp:
		p.ID = r.id()
		fallthrough
	case api.Disconnect, api.Auth:
		r.reason()
	}
	r.must(len(r.rest) == 0)
}

func (r *reader) connect() {
	p := &r.p
	r.must(r.text() == protocol)
	r.must(r.one() == version)
	r.connectFlags()
	p.Keep = r.two()
	p.Props = r.props(p.Kind)
	p.Client = r.text()
	for i := range p.Wills {
		will := &p.Wills[i]
		will.Props = r.props(willPlace)
		will.Topic = r.text()
		will.Payload = r.bin()
	}
	for i := range p.User {
		p.User[i] = r.text()
	}
	for i := range p.Pass {
		p.Pass[i] = r.bin()
	}
}

// connectFlags makes room for what the flags tell to come.
func (r *reader) connectFlags() {
	p, told := &r.p, r.one()
	p.Clean = told&cleanFlag != 0
	if told&willFlag != 0 {
		qos, retain := told>>willQoSShift&qosBits, told&willRetainFlag != 0
		p.Wills = []api.Will{{QoS: qos, Retain: retain}}
	}
	if told&userFlag != 0 {
		p.User = make([]string, 1)
	}
	if told&passFlag != 0 {
		p.Pass = make([]string, 1)
	}
	// Flags that no packet has are lost on the way to it and back.
	flags, ok := connectFlags(*p)
	r.must(ok && flags == told)
}

func (r *reader) publish() {
	p := &r.p
	p.Topic = r.text()
	if p.QoS > 0 {
		p.ID = r.id()
	}
	p.Props = r.props(p.Kind)
	p.Payload = string(r.next(len(r.rest)))
}

// list reads what a packet has of each filter, till its end.
func (r *reader) list() {
	p, count := &r.p, 0
	for ; r.e == nil && len(r.rest) > 0; count++ {
		switch p.Kind {
		case api.Subscribe:
			p.Subs = append(p.Subs, r.sub())
		case api.Unsubscribe:
			p.Filters = append(p.Filters, r.text())
		default:
			p.Codes = append(p.Codes, r.one())
		}
	}
	r.must(mayCount(count))
}

func (r *reader) sub() api.Sub {
	s := api.Sub{Filter: r.text()}
	told := r.one()
	s.QoS, s.Handling = told&qosBits, told>>handlingShift
	s.NoLocal, s.AsPub = told&noLocalFlag != 0, told&asPubFlag != 0
	_, ok := optionsOf(s)
	r.must(ok)
	return s
}

// reason reads Code and Props, as far as they are not left out.
func (r *reader) reason() {
	if len(r.rest) > 0 {
		r.p.Code = r.one()
	}
	if len(r.rest) > 0 {
		r.p.Props = r.props(r.p.Kind)
	}
}

func (r *reader) id() int {
	n := r.two()
	r.must(n != 0)
	return n
}

func (r *reader) one() int {
	b := r.next(1)
	if len(b) == 0 {
		return 0
	}
	return int(b[0])
}

func (r *reader) two() int {
	high := r.one()
	return high<<8 | r.one()
}

func (r *reader) text() string {
	s, size, e := text.Get(r.rest)
	r.fail(e)
	r.next(size)
	return s
}

func (r *reader) bin() string {
	s, size, e := text.GetBin(r.rest)
	r.fail(e)
	r.next(size)
	return s
}

func (r *reader) props(place int) []api.Prop {
	l, size, e := prop.Get(r.rest, place)
	r.fail(e)
	r.next(size)
	return l
}

// next tells the next n bytes; none, if they are not there.
func (r *reader) next(n int) []byte {
	if n > len(r.rest) {
		r.fail(api.ErrShort)
		return nil
	}
	b := r.rest[:n]
	r.rest = r.rest[n:]
	return b
}

func (r *reader) must(ok bool) {
	if !ok {
		r.fail(api.ErrForm)
	}
}

func (r *reader) fail(e error) {
	if r.e == nil {
		r.e = e
	}
}
