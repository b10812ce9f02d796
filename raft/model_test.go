package raft

import (
	"fmt"
	"math/rand"
	"slices"
	"testing"

	"dovecote/api"
	"dovecote/rpc"
)

// model is a state by the chapter's words, with what it knows of members by their numbers.
type model struct {
	api.Raft
	next, match, heard map[int]int
	out                []api.Rpc
}

func modelOf(r api.Raft) *model {
	m := &model{Raft: clone(r), next: map[int]int{}, match: map[int]int{}, heard: map[int]int{}}
	for k, id := range r.Members {
		if r.Role == api.Leader {
			m.next[id], m.match[id], m.heard[id] = r.Next[k], r.Match[k], r.Heard[k]
		}
	}
	return m
}

// told is the model's state.
func (m *model) told() api.Raft {
	m.Next, m.Match, m.Heard = nil, nil, nil
	for _, id := range m.Members {
		if m.Role == api.Leader {
			m.Next, m.Match, m.Heard = append(m.Next, m.next[id]), append(m.Match, m.match[id]), append(m.Heard, m.heard[id])
		}
	}
	return m.Raft
}

// end is where the log ends.
func (m *model) end() (index, term int) {
	index, term = m.Log.Base, m.Log.BaseTerm
	for _, e := range m.Log.Entries {
		index, term = e.Index, e.Term
	}
	return index, term
}

// at is the term of an index of the log, -1 if it has none.
func (m *model) at(i int) int {
	if i == m.Log.Base {
		return m.Log.BaseTerm
	}
	for _, e := range m.Log.Entries {
		if e.Index == i {
			return e.Term
		}
	}
	return -1
}

// byLog are the members up to an index, and the index of the entry that tells them.
func (m *model) byLog(i int) (members []int, index int) {
	members = m.SnapMembers
	for _, e := range m.Log.Entries {
		if e.Kind == api.EntryConf && e.Index <= i {
			members, index = nil, e.Index
			for _, b := range []byte(e.Data) {
				members = append(members, int(b))
			}
		}
	}
	return members, index
}

// most tells whether more than half of the members are such.
func (m *model) most(is func(id int) bool) bool {
	n := 0
	for _, id := range m.Members {
		if is(id) {
			n++
		} else {
			n--
		}
	}
	return n > 0
}

func (m *model) voted(id int) bool    { return slices.Contains(m.Votes, id) }
func (m *model) isMember(id int) bool { return slices.Contains(m.Members, id) }

func (m *model) draws() { drawn(&m.Raft) }

func (m *model) falls(term int) { fallen(&m.Raft, term) }

func (m *model) tell(kind, to, term int, ok bool, index int) {
	m.out = append(m.out, api.Rpc{Kind: kind, From: m.ID, To: to, Term: term, Ok: ok, Index: index})
}

func (m *model) asks(kind, term int) {
	index, last := m.end()
	for _, id := range m.Members {
		if id != m.ID {
			m.out = append(m.out, api.Rpc{Kind: kind, From: m.ID, To: id, Term: term, Index: index, LogTerm: last})
		}
	}
}

func (m *model) sends(id int) {
	x := api.Rpc{Kind: api.AskSnap, From: m.ID, To: id, Term: m.Term, Index: m.Log.Base, LogTerm: m.Log.BaseTerm, Members: m.SnapMembers, Data: m.Snap}
	if m.next[id] > m.Log.Base {
		x = api.Rpc{Kind: api.AskAppend, From: m.ID, To: id, Term: m.Term, Index: m.next[id] - 1, LogTerm: m.at(m.next[id] - 1), Commit: m.Commit}
		for _, e := range m.Log.Entries {
			if e.Index >= m.next[id] && len(x.Entries) < 16 {
				x.Entries = append(x.Entries, e)
			}
		}
	}
	if id != m.ID {
		m.out = append(m.out, x)
	}
}

func (m *model) sendsAll() {
	for _, id := range m.Members {
		m.sends(id)
	}
}

func (m *model) settles() {
	m.match[m.ID], _ = m.end()
	i, _ := m.end()
	for i > m.Commit && !m.most(func(id int) bool { return m.match[id] >= i }) {
		i--
	}
	if i > m.Commit && m.at(i) == m.Term {
		m.Commit = i
	}
	if _, index := m.byLog(1 << 50); !m.isMember(m.ID) && index <= m.Commit {
		m.falls(m.Term)
	}
}

func (m *model) takesOver() {
	if m.Role == api.PreCandidate && m.most(m.voted) {
		stood(&m.Raft)
		m.asks(api.AskVote, m.Term)
	}
	if m.Role != api.Candidate || !m.most(m.voted) {
		return
	}
	index, last := m.end()
	if len(m.Log.Entries) == 512 || last > m.Term {
		m.falls(m.Term)
		return
	}
	m.Role, m.Leader, m.Votes, m.Elapsed = api.Leader, m.ID, nil, 0
	for _, id := range m.Members {
		m.next[id], m.match[id], m.heard[id] = index+1, 0, 0
	}
	m.Log.Entries = append(m.Log.Entries, api.Entry{Index: index + 1, Term: m.Term})
	m.sendsAll()
	m.settles()
}

func (m *model) tick() {
	m.Elapsed = min(m.Elapsed+1, greatest)
	if m.Role == api.Leader {
		for _, id := range m.Members {
			m.heard[id] = min(m.heard[id]+1, greatest)
		}
		m.heard[m.ID] = 0
		if !m.most(func(id int) bool { return m.heard[id] < 20 }) {
			m.falls(m.Term)
			m.draws()
		} else if m.Elapsed >= 2 {
			m.Elapsed = 0
			m.sendsAll()
		}
		return
	}
	if m.Elapsed < m.Timeout || !m.isMember(m.ID) {
		return
	}
	if m.Term == greatest {
		m.draws()
		return
	}
	m.falls(m.Term)
	m.Role, m.Votes = api.PreCandidate, []int{m.ID}
	m.draws()
	m.asks(api.AskPre, m.Term+1)
	m.takesOver()
}

func (m *model) take(x api.Rpc) {
	isVote := x.Kind == api.AskPre || x.Kind == api.AskVote
	if isVote && m.Leader != 0 && (m.Role == api.Leader || m.Elapsed < 10) {
		return
	}
	if x.Term > m.Term && x.Kind != api.AskPre && !(x.Kind == api.TellPre && x.Ok) {
		m.falls(x.Term)
	}
	if x.Term < m.Term {
		if kind := map[int]int{api.AskPre: api.TellPre, api.AskVote: api.TellVote, api.AskAppend: api.TellAppend, api.AskSnap: api.TellAppend}[x.Kind]; kind != 0 {
			m.tell(kind, x.From, m.Term, false, 0)
		}
		return
	}
	index, last := m.end()
	newer := x.LogTerm > last || x.LogTerm == last && x.Index >= index
	switch x.Kind {
	case api.AskPre:
		if newer && x.Term > m.Term {
			m.tell(api.TellPre, x.From, x.Term, true, 0)
		} else {
			m.tell(api.TellPre, x.From, m.Term, false, 0)
		}
	case api.AskVote:
		ok := newer && (m.Vote == 0 || m.Vote == x.From)
		if ok {
			m.Vote, m.Elapsed = x.From, 0
		}
		m.tell(api.TellVote, x.From, m.Term, ok, 0)
	case api.TellPre, api.TellVote:
		pre := x.Kind == api.TellPre && m.Role == api.PreCandidate && x.Term == m.Term+1
		if x.Ok && (pre || x.Kind == api.TellVote && m.Role == api.Candidate) {
			m.Votes = append(m.Votes, x.From)
			slices.Sort(m.Votes)
			m.Votes = slices.Compact(m.Votes)
			m.takesOver()
		}
	case api.AskAppend, api.AskSnap:
		if m.Role == api.Leader {
			return
		}
		if m.Role != api.Follower {
			m.falls(m.Term)
		}
		m.Leader, m.Elapsed = x.From, 0
		if x.Kind == api.AskSnap {
			m.snap(x)
		} else {
			m.merge(x)
		}
	case api.TellAppend:
		m.answered(x)
	}
}

// merge takes entries, by what 15 says of Merge.
func (m *model) merge(x api.Rpc) {
	es, prev, term := x.Entries, x.Index, x.LogTerm
	last, _ := m.end()
	for prev < m.Log.Base && len(es) > 0 && es[0].Index <= m.Log.Base {
		es = es[1:]
	}
	if prev < m.Log.Base {
		prev, term = m.Log.Base, m.Log.BaseTerm
	}
	if prev > last || m.at(prev) != term {
		m.tell(api.TellAppend, x.From, m.Term, false, max(0, min(x.Index-1, last)))
		return
	}
	for len(es) > 0 && m.at(es[0].Index) == es[0].Term {
		es = es[1:]
	}
	if len(es) > 0 {
		kept := slices.DeleteFunc(slices.Clone(m.Log.Entries), func(e api.Entry) bool { return e.Index >= es[0].Index })
		merged := append(kept, es...)
		before := m.Log.BaseTerm
		for _, e := range merged {
			if e.Term < before {
				return
			}
			before = e.Term
		}
		if es[0].Index <= m.Commit || len(merged) > 512 {
			return
		}
		m.Log.Entries = merged
	}
	m.Members, _ = m.byLog(1 << 50)
	j := max(m.Log.Base, x.Index)
	for _, e := range x.Entries {
		j = max(m.Log.Base, e.Index)
	}
	m.Commit = max(m.Commit, min(x.Commit, j))
	m.tell(api.TellAppend, x.From, m.Term, true, j)
}

func (m *model) snap(x api.Rpc) {
	if x.Index > m.Commit && x.LogTerm >= m.at(m.Commit) {
		var left []api.Entry
		for _, e := range m.Log.Entries {
			if e.Index > x.Index && m.at(x.Index) == x.LogTerm {
				left = append(left, e)
			}
		}
		m.Log = api.Log{Base: x.Index, BaseTerm: x.LogTerm, Entries: left}
		m.Snap, m.SnapMembers, m.Commit = x.Data, x.Members, x.Index
		m.Members, _ = m.byLog(1 << 50)
	}
	m.tell(api.TellAppend, x.From, m.Term, true, m.Commit)
}

func (m *model) answered(x api.Rpc) {
	id := x.From
	last, _ := m.end()
	if m.Role != api.Leader || !m.isMember(id) {
		return
	}
	m.heard[id] = 0
	switch {
	case !x.Ok:
		m.next[id] = max(m.match[id]+1, min(m.next[id]-1, x.Index+1))
		m.sends(id)
	case x.Index <= last:
		m.match[id] = max(m.match[id], x.Index)
		m.next[id] = m.match[id] + 1
		m.settles()
		if m.Role == api.Leader && m.next[id] <= last {
			m.sends(id)
		}
	}
}

// propose tells the number of its error.
func (m *model) propose(kind int, data string) (int, api.Errno) {
	members := []int(nil)
	isConf := kind == api.EntryConf
	for _, b := range []byte(data) {
		if isConf && (b < 1 || b > 7 || len(members) > 0 && int(b) <= members[len(members)-1]) {
			return 0, api.ErrForm
		}
		members = append(members, int(b))
	}
	if kind != api.EntryData && !isConf || len(data) > 4096 || isConf && data == "" {
		return 0, api.ErrForm
	}
	_, change := m.byLog(1 << 50)
	if m.Role != api.Leader || isConf && (change > m.Commit || m.at(m.Commit) != m.Term) {
		return 0, api.ErrState
	}
	if isConf {
		differ := 0
		for id := 1; id <= 7; id++ {
			if m.isMember(id) != slices.Contains(members, id) {
				differ++
			}
		}
		if differ != 1 {
			return 0, api.ErrForm
		}
	}
	index, last := m.end()
	if len(m.Log.Entries) >= 512 {
		return 0, api.ErrFull
	}
	if last > m.Term {
		return 0, api.ErrForm
	}
	index++
	m.Log.Entries = append(m.Log.Entries, api.Entry{Index: index, Term: m.Term, Kind: kind, Data: data})
	old := m.Members
	if isConf {
		m.Members = members
	}
	for _, id := range m.Members {
		if !slices.Contains(old, id) {
			m.next[id], m.match[id], m.heard[id] = index+1, 0, 0
			m.sends(id)
		} else if m.next[id] == index {
			m.sends(id)
		}
	}
	m.settles()
	return index, 0
}

func (m *model) compact(i int, snap string) api.Errno {
	if i <= m.Log.Base || i > m.Commit || len(snap) > 1<<19 {
		return api.ErrForm
	}
	members, _ := m.byLog(i)
	if len(members) == 0 {
		return api.ErrForm
	}
	l := api.Log{Base: i, BaseTerm: m.at(i)}
	for _, e := range m.Log.Entries {
		if e.Index > i {
			l.Entries = append(l.Entries, e)
		}
	}
	m.Log, m.Snap, m.SnapMembers = l, snap, members
	return 0
}

// chance makes states and messages.
type chance struct{ *rand.Rand }

// some is a rising list of some of 1 to n.
func (c chance) some(n int) (l []int) {
	for id := 1; id <= n; id++ {
		if c.Intn(2) == 0 {
			l = append(l, id)
		}
	}
	return l
}

func (c chance) entry(index, term int) api.Entry {
	switch c.Intn(6) {
	case 0:
		return api.Entry{Index: index, Term: term}
	case 1:
		return conf(index, term, append(c.some(3), 4)...)
	}
	return api.Entry{Index: index, Term: term, Kind: api.EntryData, Data: fmt.Sprint(c.Intn(9))}
}

func (c chance) entries(index, term, n int) (es []api.Entry) {
	for range n {
		index++
		if c.Intn(3) == 0 {
			term += c.Intn(2)
		}
		es = append(es, c.entry(index, term))
	}
	return es
}

func (c chance) state() api.Raft {
	r := api.Raft{ID: 1 + c.Intn(4), Role: c.Intn(4), Vote: c.Intn(5), Leader: c.Intn(5), Elapsed: c.Intn(25), Timeout: 10 + c.Intn(10), Seed: c.Uint64(), Votes: c.some(5)}
	r.SnapMembers = c.some(4)
	if c.Intn(3) > 0 {
		r.Log.Base, r.Log.BaseTerm, r.Snap = 1+c.Intn(4), c.Intn(3), fmt.Sprint("snap", c.Intn(9))
		r.SnapMembers = append(r.SnapMembers, 5)
	}
	many := c.Intn(7)
	if c.Intn(20) == 0 {
		many = []int{20, 511, 512}[c.Intn(3)]
	}
	r.Log.Entries = c.entries(r.Log.Base, r.Log.BaseTerm, many)
	m := modelOf(api.Raft{SnapMembers: r.SnapMembers, Log: r.Log})
	r.Members, _ = m.byLog(1 << 50)
	index, term := m.end()
	r.Term = max(0, term+c.Intn(4)-1)
	if c.Intn(3) > 0 {
		r.Term = term
	}
	if c.Intn(40) == 0 {
		r.Term = greatest - c.Intn(2)
	}
	r.Commit = r.Log.Base + c.Intn(index-r.Log.Base+1)
	if r.Role == api.Leader {
		for _, id := range r.Members {
			match := c.Intn(index + 1)
			if id == r.ID || c.Intn(2) == 0 {
				match = index
			}
			next := match + 1
			if c.Intn(4) == 0 {
				next = 1 + c.Intn(index+1)
			}
			r.Next, r.Match, r.Heard = append(r.Next, next), append(r.Match, match), append(r.Heard, c.Intn(25))
		}
	}
	return r
}

// message is one that may be, for r.
func (c chance) message(r api.Raft) api.Rpc {
	m := modelOf(r)
	index, last := m.end()
	for {
		x := api.Rpc{Kind: api.AskPre + c.Intn(7), From: 1 + c.Intn(6), To: r.ID, Term: r.Term + c.Intn(5) - 1}
		if c.Intn(2) == 0 {
			x.Term = r.Term
		}
		near := max(0, index-c.Intn(9)+2)
		if c.Intn(3) == 0 {
			near = index
		}
		term := m.at(near)
		if term < 0 || c.Intn(5) == 0 {
			term = max(0, last+c.Intn(4)-2)
		}
		switch x.Kind {
		case api.AskPre, api.AskVote:
			x.Index, x.LogTerm = near, term
		case api.TellPre, api.TellVote:
			x.Ok = c.Intn(3) > 0
		case api.AskAppend:
			x.Index, x.LogTerm, x.Commit, x.Entries = near, term, c.Intn(index+5), c.entries(near, term, c.Intn(5))
			if c.Intn(2) == 0 { // some of its own
				for k := range x.Entries {
					if i := x.Entries[k].Index; i > r.Log.Base && i <= index && (k == 0 || x.Entries[k-1].Term <= m.at(i)) {
						x.Entries[k] = r.Log.Entries[i-r.Log.Base-1]
					}
				}
			}
		case api.TellAppend:
			x.Ok, x.Index = c.Intn(2) == 0, near
		case api.AskSnap:
			x.Index, x.LogTerm, x.Members, x.Data = near, term, append(c.some(3), 4), "new"
		}
		if x.From != r.ID && rpc.Check(x) == nil {
			return x
		}
	}
}

// TestModel: P18.2 to P18.5: states and messages of any kind against the chapter's words.
func TestModel(t *testing.T) {
	c := chance{rand.New(rand.NewSource(1))}
	kinds := map[string]int{}
	for range 60000 {
		r := c.state()
		want(t, "Check of "+show(r), Check(r), 0)
		m := modelOf(r)
		what, got, out, index, e := "", api.Raft{}, []api.Rpc(nil), 0, error(nil)
		wanted, wantIndex := api.Errno(0), 0
		switch k := c.Intn(10); {
		case k < 2:
			what = "Tick"
			got, out, e = Tick(r)
			m.tick()
		case k < 7:
			x := c.message(r)
			what = "Take" + showAll([]api.Rpc{x})
			got, out, e = Take(r, x)
			m.take(x)
			kinds[fmt.Sprint("Take ", x.Kind, " role ", r.Role)]++
		case k < 9:
			kind, data := api.EntryData, "x"
			if c.Intn(2) == 0 {
				kind, data = api.EntryConf, bytesOf(c.some(5))
				if p := slices.Clone(r.Members); c.Intn(2) == 0 && len(p) > 1 {
					data = bytesOf(slices.Delete(p, 1, 2))
				}
			}
			what = fmt.Sprintf("Propose(%d, %q)", kind, data)
			got, out, index, e = Propose(r, kind, data)
			wantIndex, wanted = m.propose(kind, data)
			kinds[fmt.Sprint("Propose ", kind, ": ", int(wanted))]++
		default:
			i := r.Commit - c.Intn(3)
			what = fmt.Sprintf("Compact(%d)", i)
			got, e = Compact(r, i, "new")
			wanted = m.compact(i, "new")
			kinds[fmt.Sprint("Compact: ", int(wanted))]++
		}
		want(t, what, e, wanted)
		w, wantOut := m.told(), m.out
		if wanted != 0 {
			w, wantOut = api.Raft{}, nil
		}
		if show(got) != show(w) || showAll(out) != showAll(wantOut) || index != wantIndex {
			t.Fatalf("%s\nof %s:\ntold %s,%s\nwant %s,%s", what, show(r), show(got), showAll(out), show(w), showAll(wantOut))
		}
		if wanted == 0 {
			mayBe(t, what, got, out)
		}
		if got.Role != r.Role {
			kinds[fmt.Sprint("role ", r.Role, " to ", got.Role)]++
		}
		if got.Commit > r.Commit {
			kinds[fmt.Sprint("settled by ", r.Role)]++
		}
	}
	if len(kinds) < 50 {
		t.Errorf("only %d kinds: %v", len(kinds), kinds)
	}
}
