package snap

import (
	"strconv"
	"strings"

	"dovecote/api"
	"dovecote/sum"
)

// record is what a file holds. Its bytes are a line with the sum of all that is behind it, a line of numbers, and the data.
type record struct {
	numbers []int
	data    string
}

func voteRecord(term, vote int) record {
	return record{numbers: []int{term, vote}}
}

// vote tells the one that r is; 0 and 0, if it is none.
func (r record) vote() (int, int) {
	if len(r.numbers) != 2 || r.data != "" || !isVote(r.numbers[0], r.numbers[1]) {
		return 0, 0
	}
	return r.numbers[0], r.numbers[1]
}

func snapRecord(m api.Rpc) record {
	return record{append([]int{m.Index, m.LogTerm}, m.Members...), m.Data}
}

// snapshot tells the one that r is; an empty one, if it is none.
func (r record) snapshot() api.Rpc {
	if len(r.numbers) < 2 {
		return api.Rpc{}
	}
	m := api.Rpc{Index: r.numbers[0], LogTerm: r.numbers[1], Members: r.numbers[2:], Data: r.data}
	if !isSnapshot(m) {
		return api.Rpc{}
	}
	return m
}

// bytes are those of r.
func (r record) bytes() []byte {
	var b []byte
	for _, n := range r.numbers {
		b = strconv.AppendInt(b, int64(n), 10)
		b = append(b, ' ')
	}
	b = append(b, '\n')
	b = append(b, r.data...)
	return append([]byte(sumText(b)+"\n"), b...)
}

// parse tells the record whose bytes b are; an empty one, if they are none's.
func parse(b []byte) record {
	head, rest, _ := strings.Cut(string(b), "\n")
	if head != sumText([]byte(rest)) {
		return record{}
	}
	line, data, _ := strings.Cut(rest, "\n")
	r := record{data: data}
	for _, text := range strings.Fields(line) {
		n, e := strconv.Atoi(text)
		if e != nil {
			return record{}
		}
		r.numbers = append(r.numbers, n)
	}
	return r
}

func sumText(b []byte) string {
	return strconv.FormatUint(uint64(sum.Sum(0, b)), 16)
}
