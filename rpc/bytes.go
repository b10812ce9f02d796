package rpc

import "dovecote/api"

// Each message has all fields, each with as many bytes whatever its value, and each list behind its length: so a message has no bytes but these, and no message's bytes begin another's.
const (
	wideSmall  = 1 // a kind, a node, how many there are of a list
	wideNumber = 5 // a term, an index
	wideEntry  = 2 // how many bytes an entry has
	wideSnap   = 4 // how many bytes a snapshot has
)

// write is the bytes of m, which may be.
func write(m api.Rpc) []byte {
	b := []byte{byte(m.Kind), byte(m.From), byte(m.To), flag(m.Ok)}
	for _, n := range []int{m.Term, m.Index, m.LogTerm, m.Commit} {
		b = appendNumber(b, n, wideNumber)
	}
	b = appendNumber(b, len(m.Entries), wideSmall)
	for _, one := range m.Entries {
		// Where it stands tells its index.
		b = appendNumber(b, one.Kind, wideSmall)
		b = appendNumber(b, one.Term, wideNumber)
		b = appendText(b, one.Data, wideEntry)
	}
	b = appendNumber(b, len(m.Members), wideSmall)
	for _, k := range m.Members {
		b = appendNumber(b, k, wideSmall)
	}
	return appendText(b, m.Data, wideSnap)
}

func flag(is bool) byte {
	if is {
		return 1
	}
	return 0
}

// appendText puts s behind b, with how many bytes it has ahead of it.
func appendText(b []byte, s string, wide int) []byte {
	return append(appendNumber(b, len(s), wide), s...)
}

// appendNumber puts n behind b, its highest byte first.
func appendNumber(b []byte, n int, wide int) []byte {
	for i := wide - 1; i >= 0; i-- {
		b = append(b, byte(n>>(8*i)))
	}
	return b
}

// number is the one that b are.
func number(b []byte) int {
	n := 0
	for _, c := range b {
		n = n<<8 | int(c)
	}
	return n
}

// read tells what would have the bytes b. Whether that may be is left open.
func read(b []byte) (api.Rpc, error) {
	r := reader{rest: b}
	m := r.message()
	if r.e == nil && len(r.rest) > 0 {
		r.e = api.ErrForm
	}
	if r.e != nil {
		return api.Rpc{}, r.e
	}
	return m, nil
}

// reader reads a message's bytes. Behind an error it finds noughts alone.
type reader struct {
	rest []byte
	e    error
}

func (r *reader) message() api.Rpc {
	m := api.Rpc{Kind: r.number(wideSmall), From: r.number(wideSmall), To: r.number(wideSmall), Ok: r.flag()}
	m.Term = r.number(wideNumber)
	m.Index = r.number(wideNumber)
	m.LogTerm = r.number(wideNumber)
	m.Commit = r.number(wideNumber)
	for i := range r.number(wideSmall) {
		one := api.Entry{Index: m.Index + 1 + i, Kind: r.number(wideSmall), Term: r.number(wideNumber), Data: r.text(wideEntry)}
		m.Entries = append(m.Entries, one)
	}
	for range r.number(wideSmall) {
		m.Members = append(m.Members, r.number(wideSmall))
	}
	m.Data = r.text(wideSnap)
	return m
}

func (r *reader) flag() bool {
	n := r.number(wideSmall)
	if n > 1 {
		r.fail()
	}
	return n == 1
}

func (r *reader) text(wide int) string {
	return string(r.next(r.number(wide)))
}

func (r *reader) number(wide int) int {
	return number(r.next(wide))
}

// next tells the next n bytes; none, if they are not there.
func (r *reader) next(n int) []byte {
	if n > len(r.rest) {
		r.fail()
		return nil
	}
	b := r.rest[:n]
	r.rest = r.rest[n:]
	return b
}

func (r *reader) fail() {
	r.rest, r.e = nil, api.ErrForm
}
