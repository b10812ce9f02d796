package entries

import "dovecote/api"

const (
	indexes = 1 << 40        // the greatest index
	terms   = 1 << 40        // how many terms there are
	maxBase = indexes - 2048 // leaves indexes for all entries of a log
)

// isLog tells whether l is a log that may be.
func isLog(l api.Log) bool {
	return isBase(l.Base, l.BaseTerm) && len(l.Entries) <= api.MaxEntries && goOn(l.Base, l.BaseTerm, l.Entries)
}

// isBase tells whether a log may begin behind that index, of that term.
func isBase(index, term int) bool {
	return 0 <= index && index <= maxBase && isTerm(term)
}

// goOn tells whether es are entries that may be, from the one behind index on, with terms that do not fall, from term on.
func goOn(index, term int, es []api.Entry) bool {
	for _, e := range es {
		index++
		if e.Index != index || e.Term < term || !isEntry(e) {
			return false
		}
		term = e.Term
	}
	return true
}

// isEntry tells whether e is an entry that may be.
func isEntry(e api.Entry) bool {
	return 1 <= e.Index && e.Index <= indexes && isTerm(e.Term) && api.EntryNone <= e.Kind && e.Kind <= api.EntryConf && len(e.Data) <= api.MaxEntry
}

func isTerm(n int) bool {
	return 0 <= n && n < terms
}

// last tells the index and the term behind which l goes on.
func last(l api.Log) (int, int) {
	if n := len(l.Entries); n > 0 {
		return l.Entries[n-1].Index, l.Entries[n-1].Term
	}
	return l.Base, l.BaseTerm
}

// termAt tells the term of entry i, or of the base; ErrNone where l has neither.
func termAt(l api.Log, i int) (int, error) {
	index, _ := last(l)
	switch {
	case i < l.Base, i > index:
		return 0, api.ErrNone
	case i == l.Base:
		return l.BaseTerm, nil
	}
	return l.Entries[i-l.Base-1].Term, nil
}

// upTo are the entries of l up to i, a piece of its list; i is from its base to its last index, here and below.
func upTo(l api.Log, i int) []api.Entry {
	return l.Entries[:i-l.Base]
}

// above are the entries of l above i, a piece of its list.
func above(l api.Log, i int) []api.Entry {
	return l.Entries[i-l.Base:]
}
