package raft

import (
	"slices"

	"dovecote/api"
	"dovecote/entries"
	"dovecote/quorum"
	"dovecote/random"
)

// machine is a state that may be, in memory of its own, and what it has handed out. What lower layers are asked of such a state has no errors: these are left out.
type machine struct {
	api.Raft
	out []api.Rpc
}

// start is a machine of r's state; what is handed in stays as it is.
func start(r api.Raft) (*machine, error) {
	if e := check(r); e != nil {
		return nil, e
	}
	r.Log.Entries = slices.Clone(r.Log.Entries)
	for _, l := range []*[]int{&r.Members, &r.SnapMembers, &r.Votes, &r.Next, &r.Match, &r.Heard} {
		*l = slices.Clone(*l)
	}
	return &machine{Raft: r}, nil
}

// draw draws a new timeout, so that two who asked for votes at one time hardly do so again.
func (s *machine) draw() {
	s.Seed = random.Next(s.Seed)
	s.Timeout = api.Wait + int(s.Seed%api.Wait)
	s.Elapsed = 0
}

// fallBack makes it a follower of nobody, in that term if it is a later one.
func (s *machine) fallBack(term int) {
	s.Role, s.Leader = api.Follower, 0
	s.Votes, s.Next, s.Match, s.Heard = nil, nil, nil, nil
	if term > s.Term {
		s.Term, s.Vote = term, 0
	}
}

// hand hands out m.
func (s *machine) hand(to, term int, m api.Rpc) {
	m.From, m.To, m.Term = s.ID, to, term
	s.out = append(s.out, m)
}

// ask asks all others for their votes, or for what these would be.
func (s *machine) ask(kind, term int) {
	index, logTerm, _ := entries.Last(s.Log)
	for _, id := range s.Members {
		if id != s.ID {
			s.hand(id, term, api.Rpc{Kind: kind, Index: index, LogTerm: logTerm})
		}
	}
}

// send sends a member, by its place among them, what it has not got, as far as is known.
func (s *machine) send(k int) {
	id, next := s.Members[k], s.Next[k]
	if id == s.ID {
		return
	}
	if next <= s.Log.Base {
		s.hand(id, s.Term, api.Rpc{Kind: api.AskSnap, Index: s.Log.Base, LogTerm: s.Log.BaseTerm, Members: slices.Clone(s.SnapMembers), Data: s.Snap})
		return
	}
	logTerm, _ := entries.Term(s.Log, next-1)
	es, _ := entries.Slice(s.Log, next, api.MaxSend)
	s.hand(id, s.Term, api.Rpc{Kind: api.AskAppend, Index: next - 1, LogTerm: logTerm, Commit: s.Commit, Entries: es})
}

func (s *machine) sendAll() {
	for k := range s.Members {
		s.send(k)
	}
}

// put puts an entry of its term behind the log. It is told that there is no room also behind the last index of all, though a base is never so late that a log came there.
func (s *machine) put(kind int, data string) error {
	index := s.last()
	if index == indexes || len(s.Log.Entries) == api.MaxEntries {
		return api.ErrFull
	}
	l, e := entries.Append(s.Log, []api.Entry{{Index: index + 1, Term: s.Term, Kind: kind, Data: data}})
	if e != nil {
		return e
	}
	s.Log = l
	return nil
}

// settle moves Commit on to what more than half of the members have: only of this term, since what is of an earlier one could still be cut.
func (s *machine) settle() {
	if k := slices.Index(s.Members, s.ID); k >= 0 {
		s.Match[k] = s.last()
	}
	i, _ := quorum.Index(s.Members, s.Match)
	if i > s.Commit && s.termAt(i) == s.Term {
		s.Commit = i
	}
	// Till then it leads on, though it is no member any more: who else could settle that?
	if !slices.Contains(s.Members, s.ID) && s.lastConf() <= s.Commit {
		s.fallBack(s.Term)
	}
}

// takeOver goes on to the next role, if the votes are enough.
func (s *machine) takeOver() {
	if !s.isEnough(s.Votes) {
		return
	}
	switch s.Role {
	case api.PreCandidate:
		s.stand()
		if !s.isEnough(s.Votes) {
			return
		}
		fallthrough
	case api.Candidate:
		s.lead()
	}
}

// stand asks for votes in the next term. There is one: in the last one nobody grants that it would vote in a next.
func (s *machine) stand() {
	s.Term++
	s.Vote, s.Role, s.Leader, s.Votes = s.ID, api.Candidate, 0, []int{s.ID}
	s.draw()
	s.ask(api.AskVote, s.Term)
}

// lead begins with an entry of its own term, since what is of earlier ones is settled with it alone. Without room for it nobody can lead.
func (s *machine) lead() {
	next := s.last() + 1
	if e := s.put(api.EntryNone, ""); e != nil {
		s.fallBack(s.Term)
		return
	}
	s.Role, s.Leader, s.Votes, s.Elapsed = api.Leader, s.ID, nil, 0
	many := len(s.Members)
	s.Next, s.Match, s.Heard = slices.Repeat([]int{next}, many), make([]int, many), make([]int, many)
	s.sendAll()
	s.settle()
}

func (s *machine) isEnough(votes []int) bool {
	enough, _ := quorum.Enough(s.Members, votes)
	return enough
}

// last is the index of the last entry, or of the base.
func (s *machine) last() int {
	index, _, _ := entries.Last(s.Log)
	return index
}

// termAt is the term at an index that the log has.
func (s *machine) termAt(i int) int {
	term, _ := entries.Term(s.Log, i)
	return term
}

// lastConf is the index of the last EntryConf, 0 if there is none.
func (s *machine) lastConf() int {
	for _, one := range slices.Backward(s.Log.Entries) {
		if one.Kind == api.EntryConf {
			return one.Index
		}
	}
	return 0
}

// membersAt are the members by what stands up to that index, in new memory.
func (s *machine) membersAt(i int) []int {
	for _, one := range slices.Backward(s.Log.Entries) {
		if one.Kind == api.EntryConf && one.Index <= i {
			m, _ := confOf(one.Data)
			return m
		}
	}
	return slices.Clone(s.SnapMembers)
}
