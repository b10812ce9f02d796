package wal

import (
	"errors"

	"dovecote/api"
	"dovecote/sum"
)

// What a record does to a log.
const (
	opBegin = iota + 1 // makes it one without entries: index and term are its base's
	opEntry
	opCut
	opDrop
)

// A frame has the length of its data, the record, the data, the sum of all that stands ahead in the generation, and a mark.
const (
	wideLength = 4
	wideNumber = 8
	wideSum    = 4
	wideHead   = wideLength + 1 + 4*wideNumber
	wideEnd    = wideSum + 1
	wideFrame  = wideHead + wideEnd // without data
)

// mark ends a frame. It is no nought: as a tear leaves noughts from some sector on, a mark that is there tells that all ahead of it is.
const mark = 0xa5

var (
	errEnd  = errors.New("no frame is left")
	errTorn = errors.New("no whole frame")
)

// record is a change of a log, or a part of one.
type record struct {
	op    int
	index int
	term  int
	kind  int
	due   int // how many records follow that belong to the same change: it is done by the last one
	data  string
}

// entryRecords are those that append l.
func entryRecords(l []api.Entry) []record {
	rs := make([]record, 0, len(l))
	for _, e := range l {
		rs = append(rs, record{op: opEntry, index: e.Index, term: e.Term, kind: e.Kind, data: e.Data})
	}
	return rs
}

// wholeRecords are those that make l out of nothing.
func wholeRecords(l api.Log) []record {
	begin := record{op: opBegin, index: l.Base, term: l.BaseTerm}
	return append([]record{begin}, entryRecords(l.Entries)...)
}

// sizeOf is how many bytes the frames of these records have.
func sizeOf(rs []record) int {
	n := len(rs) * wideFrame
	for _, r := range rs {
		n += len(r.data)
	}
	return n
}

// wholeSize is how many bytes the frames have that make l out of nothing.
func wholeSize(l api.Log) int {
	n := (1 + len(l.Entries)) * wideFrame
	for _, e := range l.Entries {
		n += len(e.Data)
	}
	return n
}

// frame is r as bytes; s is the sum of what stands ahead of it.
func frame(s uint32, r record) []byte {
	b := make([]byte, 0, wideFrame+len(r.data))
	b = appendNumber(b, uint64(len(r.data)), wideLength)
	b = append(b, byte(r.op))
	b = appendNumber(b, uint64(r.index), wideNumber)
	b = appendNumber(b, uint64(r.term), wideNumber)
	b = appendNumber(b, uint64(r.kind), wideNumber)
	b = appendNumber(b, uint64(r.due), wideNumber)
	b = append(b, r.data...)
	b = appendNumber(b, uint64(sum.Sum(s, b)), wideSum)
	return append(b, mark)
}

// parse tells the record with whose frame b begin, and how long that is; errEnd, if b is empty, errTorn, if they do not begin with a whole one.
func parse(s uint32, b []byte) (record, int, error) {
	if len(b) == 0 {
		return record{}, 0, errEnd
	}
	if len(b) < wideFrame {
		return record{}, 0, errTorn
	}
	size := wideFrame + int(number(b[:wideLength]))
	if len(b) < size {
		return record{}, 0, errTorn
	}
	body := b[:size-wideEnd]
	if b[size-1] != mark || sumOf(b[:size]) != sum.Sum(s, body) {
		return record{}, 0, errTorn
	}
	return recordOf(body), size, nil
}

// sumOf is the sum that a frame has.
func sumOf(f []byte) uint32 {
	end := len(f) - wideEnd
	return uint32(number(f[end : end+wideSum]))
}

// recordOf is the record of a frame without its end.
func recordOf(body []byte) record {
	var n [4]int
	for i := range n {
		from := wideLength + 1 + i*wideNumber
		n[i] = int(number(body[from : from+wideNumber]))
	}
	return record{int(body[wideLength]), n[0], n[1], n[2], n[3], string(body[wideHead:])}
}

// appendNumber puts n behind b, its lowest byte first.
func appendNumber(b []byte, n uint64, wide int) []byte {
	for range wide {
		b = append(b, byte(n))
		n >>= 8
	}
	return b
}

// number is the one that b are.
func number(b []byte) uint64 {
	n := uint64(0)
	for i := range b {
		n |= uint64(b[i]) << (8 * i)
	}
	return n
}
