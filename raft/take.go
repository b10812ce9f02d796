package raft

import (
	"slices"

	"dovecote/api"
	"dovecote/entries"
	"dovecote/rpc"
)

// checkMessage tells whether m may come to this node.
func (s *machine) checkMessage(m api.Rpc) error {
	if e := rpc.Check(m); e != nil {
		return e
	}
	if m.To != s.ID || m.From == s.ID {
		return api.ErrForm
	}
	return nil
}

// take takes a message that may come.
func (s *machine) take(m api.Rpc) {
	if s.isBound(m.Kind) {
		return
	}
	if m.Term > s.Term && !isOfNext(m) {
		s.fallBack(m.Term)
	}
	if m.Term < s.Term {
		s.answer(m, false, 0)
		return
	}
	switch m.Kind {
	case api.AskPre, api.AskVote:
		s.takeAsk(m)
	case api.TellPre, api.TellVote:
		s.takeVote(m)
	case api.AskAppend, api.AskSnap:
		s.follow(m)
	case api.TellAppend:
		s.takeTold(m)
	}
}

// isBound tells whether it hears of nobody who wants votes, since it knows a leader that was there not long ago.
func (s *machine) isBound(kind int) bool {
	if kind != api.AskPre && kind != api.AskVote || s.Leader == 0 {
		return false
	}
	return s.Role == api.Leader || s.Elapsed < api.Wait
}

// isOfNext tells whether m's term is one that nobody has begun yet.
func isOfNext(m api.Rpc) bool {
	return m.Kind == api.AskPre || m.Kind == api.TellPre && m.Ok
}

// answer answers m, if it asks.
func (s *machine) answer(m api.Rpc, ok bool, index int) {
	term := s.Term
	if m.Kind == api.AskPre && ok {
		term = m.Term
	}
	if kind := answerTo(m.Kind); kind != api.RpcNone {
		s.hand(m.From, term, api.Rpc{Kind: kind, Ok: ok, Index: index})
	}
}

// answerTo is the kind of the answer to that kind.
func answerTo(kind int) int {
	switch kind {
	case api.AskSnap: // as the entries in whose place it comes
		kind = api.AskAppend
		fallthrough
	case api.AskPre, api.AskVote, api.AskAppend:
		return kind + 1
	}
	return api.RpcNone
}

// takeAsk grants a vote to whom has not less than itself: one a term, while to say that it would vote binds to nothing.
func (s *machine) takeAsk(m api.Rpc) {
	ok, _ := entries.Newer(s.Log, m.Index, m.LogTerm)
	switch m.Kind {
	case api.AskPre:
		ok = ok && m.Term > s.Term
	case api.AskVote:
		ok = ok && (s.Vote == 0 || s.Vote == m.From)
		if ok {
			s.Vote, s.Elapsed = m.From, 0
		}
	}
	s.answer(m, ok, 0)
}

// takeVote counts a vote that was asked for in the role that it still has.
func (s *machine) takeVote(m api.Rpc) {
	role, term := api.Candidate, s.Term
	if m.Kind == api.TellPre {
		role, term = api.PreCandidate, s.Term+1
	}
	if s.Role != role || !m.Ok || m.Term != term {
		return
	}
	if k, there := slices.BinarySearch(s.Votes, m.From); !there {
		s.Votes = slices.Insert(s.Votes, k, m.From)
	}
	s.takeOver()
}

// follow takes what a leader of its term has sent.
func (s *machine) follow(m api.Rpc) {
	if s.Role == api.Leader {
		return
	}
	if s.Role != api.Follower {
		s.fallBack(s.Term)
	}
	s.Leader, s.Elapsed = m.From, 0
	if m.Kind == api.AskSnap {
		s.takeSnap(m)
		return
	}
	s.takeEntries(m)
}

// takeEntries takes what goes on from an entry that it has, unless that would undo what is settled.
func (s *machine) takeEntries(m api.Rpc) {
	l, miss, e := entries.Merge(s.Log, m.Index, m.LogTerm, m.Entries)
	if e != nil || !s.keepsSettled(l) {
		return
	}
	if miss {
		s.answer(m, false, max(0, min(m.Index-1, s.last())))
		return
	}
	there := max(m.Index+len(m.Entries), l.Base)
	s.Log = l
	s.Members = s.membersAt(s.last())
	s.Commit = max(s.Commit, min(m.Commit, there))
	s.answer(m, true, there)
}

// keepsSettled tells whether l, which has its base, has all its entries up to Commit.
func (s *machine) keepsSettled(l api.Log) bool {
	settled := s.Log.Entries[:s.Commit-s.Log.Base]
	return len(l.Entries) >= len(settled) && slices.Equal(l.Entries[:len(settled)], settled)
}

// takeSnap takes a snapshot that goes on from what is settled.
func (s *machine) takeSnap(m api.Rpc) {
	if m.Index > s.Commit && m.LogTerm >= s.termAt(s.Commit) {
		s.restore(m)
	}
	s.answer(m, true, s.Commit)
}

// restore begins anew with a snapshot; only entries behind the very one that it ends with may go on from it.
func (s *machine) restore(m api.Rpc) {
	l := api.Log{Base: m.Index, BaseTerm: m.LogTerm}
	if term, e := entries.Term(s.Log, m.Index); e == nil && term == m.LogTerm {
		l, _ = entries.Compact(s.Log, m.Index)
	}
	s.Log, s.Snap, s.SnapMembers, s.Commit = l, m.Data, slices.Clone(m.Members), m.Index
	s.Members = s.membersAt(s.last())
}

// takeTold takes what a member tells of what it has.
func (s *machine) takeTold(m api.Rpc) {
	k := slices.Index(s.Members, m.From)
	if s.Role != api.Leader || k < 0 {
		return
	}
	s.Heard[k] = 0
	if !m.Ok {
		s.Next[k] = max(min(s.Next[k]-1, m.Index+1), s.Match[k]+1)
		s.send(k)
		return
	}
	if m.Index > s.last() {
		return
	}
	s.Match[k] = max(s.Match[k], m.Index)
	s.Next[k] = s.Match[k] + 1
	s.settle()
	if s.Role == api.Leader && s.Next[k] <= s.last() {
		s.send(k)
	}
}
