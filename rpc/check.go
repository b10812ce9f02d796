package rpc

import (
	"dovecote/api"
	"dovecote/entries"
	"dovecote/quorum"
)

const (
	numbers = 1 << 40        // how many terms and indexes there are
	maxSnap = numbers - 2048 // the greatest index of a snapshot: a log may begin behind it
)

// check tells whether m may be.
func check(m api.Rpc) error {
	if !isHead(m) || !isEmpty(beside(m)) {
		return api.ErrForm
	}
	switch m.Kind {
	case api.AskAppend:
		return checkEntries(m)
	case api.AskSnap:
		return checkSnapshot(m)
	}
	return nil
}

// isHead tells whether m has a kind and nodes, and numbers that some message may have.
func isHead(m api.Rpc) bool {
	if m.Kind < api.AskPre || m.Kind > api.AskSnap || !isNode(m.From) || !isNode(m.To) {
		return false
	}
	return isNumber(m.Term) && isNumber(m.Index) && isNumber(m.LogTerm) && isNumber(m.Commit)
}

func isNode(n int) bool {
	return 1 <= n && n <= api.MaxNodes
}

func isNumber(n int) bool {
	return 0 <= n && n < numbers
}

// beside is what m has beside its head and what its kind has use for.
func beside(m api.Rpc) api.Rpc {
	switch m.Kind {
	case api.AskAppend:
		m.Commit, m.Entries = 0, nil
		fallthrough
	case api.AskPre, api.AskVote:
		m.Index, m.LogTerm = 0, 0
	case api.AskSnap:
		m.Index, m.LogTerm, m.Members, m.Data = 0, 0, nil, ""
	case api.TellAppend:
		m.Index = 0
		fallthrough
	case api.TellPre, api.TellVote:
		m.Ok = false
	}
	return m
}

// isEmpty tells whether m has nothing but what each kind has.
func isEmpty(m api.Rpc) bool {
	return m.Index == 0 && m.LogTerm == 0 && m.Commit == 0 && !m.Ok && len(m.Entries) == 0 && len(m.Members) == 0 && m.Data == ""
}

func checkEntries(m api.Rpc) error {
	if len(m.Entries) > api.MaxSend {
		return api.ErrForm
	}
	// So few have room in an empty log: all that Merge can find wrong is that they do not go on from Index and LogTerm.
	if _, _, e := entries.Merge(api.Log{}, m.Index, m.LogTerm, m.Entries); e != nil {
		return e
	}
	for _, one := range m.Entries {
		if e := checkConf(one); e != nil {
			return e
		}
	}
	return nil
}

// checkConf tells whether an entry, if it is one of members, has some.
func checkConf(one api.Entry) error {
	if one.Kind != api.EntryConf {
		return nil
	}
	m, e := quorum.Parse(one.Data)
	if e != nil {
		return e
	}
	return checkMembers(m)
}

func checkSnapshot(m api.Rpc) error {
	if m.Index < 1 || m.Index > maxSnap || len(m.Data) > api.MaxFile/2 {
		return api.ErrForm
	}
	return checkMembers(m.Members)
}

func checkMembers(m []int) error {
	if len(m) == 0 {
		return api.ErrForm
	}
	return quorum.Check(m)
}
