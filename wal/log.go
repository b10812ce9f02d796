package wal

import (
	"slices"

	"dovecote/api"
)

const (
	indexes = 1 << 40        // the greatest index
	terms   = 1 << 40        // how many terms there are
	maxBase = indexes - 2048 // leaves indexes for all entries of a log
)

// longer is l with these entries behind its last one.
func longer(l api.Log, more []api.Entry) (api.Log, error) {
	index, term := last(l)
	for _, e := range more {
		index++
		if e.Index != index || e.Term < term || !mayBe(e) {
			return api.Log{}, api.ErrForm
		}
		term = e.Term
	}
	if len(l.Entries)+len(more) > api.MaxEntries {
		return api.Log{}, api.ErrFull
	}
	l.Entries = append(l.Entries, more...)
	return l, nil
}

// cut is l without the entries above i.
func cut(l api.Log, i int) (api.Log, error) {
	index, _ := last(l)
	if i < l.Base || i > index {
		return api.Log{}, api.ErrForm
	}
	n := i - l.Base
	// Without spare room: what is appended then is not to be written over what another log still has there.
	l.Entries = l.Entries[:n:n]
	return l, nil
}

// dropped is l without the entries up to i.
func dropped(l api.Log, i, term int) (api.Log, error) {
	if i <= l.Base || !isBase(i, term) || term < l.BaseTerm {
		return api.Log{}, api.ErrForm
	}
	var left []api.Entry
	if n := i - l.Base; n <= len(l.Entries) {
		if l.Entries[n-1].Term != term {
			return api.Log{}, api.ErrForm
		}
		// A clone, as a piece would keep the room of all that is gone.
		left = slices.Clone(l.Entries[n:])
	}
	return api.Log{Base: i, BaseTerm: term, Entries: left}, nil
}

// last tells the index and the term behind which l goes on.
func last(l api.Log) (int, int) {
	if n := len(l.Entries); n > 0 {
		return l.Entries[n-1].Index, l.Entries[n-1].Term
	}
	return l.Base, l.BaseTerm
}

// mayBe tells whether e is an entry that may be.
func mayBe(e api.Entry) bool {
	return 1 <= e.Index && e.Index <= indexes && isTerm(e.Term) && api.EntryNone <= e.Kind && e.Kind <= api.EntryConf && len(e.Data) <= api.MaxEntry
}

// isBase tells whether a log may begin behind that index, of that term.
func isBase(index, term int) bool {
	return 0 <= index && index <= maxBase && isTerm(term)
}

func isTerm(n int) bool {
	return 0 <= n && n < terms
}
