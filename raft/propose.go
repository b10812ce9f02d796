package raft

import (
	"slices"

	"dovecote/api"
	"dovecote/quorum"
)

// propose puts an entry behind the log, and tells its index.
func (s *machine) propose(kind int, data string) (int, error) {
	members, e := proposed(kind, data)
	if e != nil {
		return 0, e
	}
	if s.Role != api.Leader {
		return 0, api.ErrState
	}
	if kind == api.EntryConf {
		if e := s.mayChange(members); e != nil {
			return 0, e
		}
	}
	if e := s.put(kind, data); e != nil {
		return 0, e
	}
	if kind == api.EntryConf {
		s.change(members)
	}
	index := s.last()
	s.sendFrom(index)
	s.settle()
	return index, nil
}

// proposed tells whether such an entry may be proposed, and its members, if it is one of members.
func proposed(kind int, data string) ([]int, error) {
	if kind != api.EntryData && kind != api.EntryConf || len(data) > api.MaxEntry {
		return nil, api.ErrForm
	}
	if kind == api.EntryData {
		return nil, nil
	}
	return confOf(data)
}

// mayChange tells whether the members may become these: one change behind the other, and none ahead of what this leader has settled itself, else two that are enough might have nobody in common.
func (s *machine) mayChange(members []int) error {
	if s.lastConf() > s.Commit || s.termAt(s.Commit) != s.Term {
		return api.ErrState
	}
	if is, _ := quorum.Change(s.Members, members); !is {
		return api.ErrForm
	}
	return nil
}

// change makes these the members: of those who stay it is known what was known.
func (s *machine) change(members []int) {
	many := len(members)
	next, match, heard := slices.Repeat([]int{s.last() + 1}, many), make([]int, many), make([]int, many)
	for k, id := range members {
		if was := slices.Index(s.Members, id); was >= 0 {
			next[k], match[k], heard[k] = s.Next[was], s.Match[was], s.Heard[was]
		}
	}
	s.Members, s.Next, s.Match, s.Heard = members, next, match, heard
}

// sendFrom sends to those who had all ahead of that index, and so lack nothing else, and to those who are new, whose next is beyond it.
func (s *machine) sendFrom(index int) {
	for k := range s.Members {
		if s.Next[k] >= index {
			s.send(k)
		}
	}
}
