package raft

import (
	"slices"

	"dovecote/api"
	"dovecote/entries"
	"dovecote/quorum"
)

const (
	numbers  = 1 << 40         // how many terms and ticks there are
	indexes  = 1 << 40         // the greatest index
	lastTerm = numbers - 1     // nobody asks for votes in it: none follows
	maxSnap  = api.MaxFile / 2 // bytes of a snapshot
)

// check tells whether r is a state that may be.
func check(r api.Raft) error {
	if !isHead(r) {
		return api.ErrForm
	}
	if e := entries.Check(r.Log); e != nil {
		return e
	}
	for _, part := range []func(api.Raft) error{checkSnapshot, checkMembers, checkVotes, checkIndexes} {
		if e := part(r); e != nil {
			return e
		}
	}
	return nil
}

// isHead tells whether r has numbers that some state may have.
func isHead(r api.Raft) bool {
	if !isNode(r.ID) || r.Role < api.Follower || r.Role > api.Leader {
		return false
	}
	for _, n := range []int{r.Term, r.Elapsed, r.Timeout} {
		if !isNumber(n) {
			return false
		}
	}
	return isNodeOrNone(r.Vote) && isNodeOrNone(r.Leader)
}

func isNode(n int) bool {
	return 1 <= n && n <= api.MaxNodes
}

func isNodeOrNone(n int) bool {
	return n == 0 || isNode(n)
}

func isNumber(n int) bool {
	return 0 <= n && n < numbers
}

func checkSnapshot(r api.Raft) error {
	if len(r.Snap) > maxSnap {
		return api.ErrForm
	}
	if r.Log.Base == 0 && r.Snap != "" || r.Log.Base > 0 && len(r.SnapMembers) == 0 {
		return api.ErrForm
	}
	return quorum.Check(r.SnapMembers)
}

// checkMembers tells whether r's members are those that its log and its snapshot tell of.
func checkMembers(r api.Raft) error {
	members := r.SnapMembers
	for _, one := range r.Log.Entries {
		if one.Kind != api.EntryConf {
			continue
		}
		m, e := confOf(one.Data)
		if e != nil {
			return e
		}
		members = m
	}
	if !slices.Equal(r.Members, members) {
		return api.ErrForm
	}
	return nil
}

// confOf are the members of an EntryConf with that data: some there must be.
func confOf(data string) ([]int, error) {
	m, e := quorum.Parse(data)
	if e != nil {
		return nil, e
	}
	if len(m) == 0 {
		return nil, api.ErrForm
	}
	return m, nil
}

func checkVotes(r api.Raft) error {
	return quorum.Check(r.Votes)
}

// checkIndexes tells whether r's indexes are within its log, which may be, and those of members are a leader's.
func checkIndexes(r api.Raft) error {
	index, _, _ := entries.Last(r.Log)
	many := 0
	if r.Role == api.Leader {
		many = len(r.Members)
	}
	if r.Commit < r.Log.Base || r.Commit > index || !areWithin(r.Next, many, 1, index+1) || !areWithin(r.Match, many, 0, index) || !areWithin(r.Heard, many, 0, numbers-1) {
		return api.ErrForm
	}
	return nil
}

// areWithin tells whether l has that many numbers, from least to most.
func areWithin(l []int, many, least, most int) bool {
	if len(l) != many {
		return false
	}
	for _, n := range l {
		if n < least || n > most {
			return false
		}
	}
	return true
}
