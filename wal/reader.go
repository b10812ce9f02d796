package wal

import "dovecote/api"

// reader makes a log of a generation's records.
type reader struct {
	log     api.Log // behind the last change that is whole
	next    api.Log // behind the last record
	at      place
	due     int  // how many records are still to come of the change that began
	isWhole bool // the generation tells a log: else it was being written when the power went
	isClean bool // and nothing else stands behind it
}

// follow goes through a part's bytes; its error is errEnd, if they are whole frames to their end.
func (r *reader) follow(b []byte) error {
	for {
		c, n, e := parse(r.at.sum, b)
		if e != nil {
			return e
		}
		if e := r.take(c); e != nil {
			return e
		}
		r.at.pass(b[:n])
		b = b[n:]
	}
}

// take does what a record says. A change whose last record is not there is not done: what a call has put behind the last one's log is there as a whole, or not at all.
func (r *reader) take(c record) error {
	if r.due > 0 && c.due != r.due-1 {
		return errTorn
	}
	next, e := r.applied(c)
	if e != nil {
		return e
	}
	r.next, r.due = next, c.due
	if r.due == 0 {
		r.log, r.isWhole = r.next, true
	}
	return nil
}

// applied is the log behind a record; one that this program has not written there is as good as torn.
func (r *reader) applied(c record) (api.Log, error) {
	isFirst := r.at.all == 0
	switch {
	case isFirst != (c.op == opBegin):
		return api.Log{}, errTorn
	case isFirst && isBase(c.index, c.term):
		return api.Log{Base: c.index, BaseTerm: c.term}, nil
	case c.op == opEntry:
		return longer(r.next, []api.Entry{{Index: c.index, Term: c.term, Kind: c.kind, Data: c.data}})
	case c.op == opCut:
		return cut(r.next, c.index)
	case c.op == opDrop:
		return dropped(r.next, c.index, c.term)
	}
	return api.Log{}, errTorn
}
