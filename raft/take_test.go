package raft

import (
	"fmt"
	"slices"
	"strings"
	"testing"

	"dovecote/api"
)

// from is a message of that kind and term from node 1, as the answers of state are.
func from(kind, to, term, index int, ok bool) api.Rpc {
	return api.Rpc{Kind: kind, From: 1, To: to, Term: term, Index: index, Ok: ok}
}

// each kind's messages, which may be, from node 2 to node 1.
func someOf(kind, term int) (l []api.Rpc) {
	m := api.Rpc{Kind: kind, From: 2, To: 1, Term: term}
	put := func(change func(m *api.Rpc)) {
		x := m
		change(&x)
		l = append(l, x)
	}
	switch kind {
	case api.AskPre, api.AskVote:
		put(func(m *api.Rpc) {})
		put(func(m *api.Rpc) { m.Index, m.LogTerm = 6, 5 })
		put(func(m *api.Rpc) { m.Index, m.LogTerm = 7, 9 })
	case api.TellPre, api.TellVote:
		put(func(m *api.Rpc) {})
		put(func(m *api.Rpc) { m.Ok = true })
	case api.AskAppend:
		put(func(m *api.Rpc) { m.Index, m.LogTerm, m.Commit = 6, 5, 6 })
		put(func(m *api.Rpc) { m.Index, m.LogTerm, m.Entries = 6, 5, list(7, 5) })
		put(func(m *api.Rpc) { m.Index, m.LogTerm = 9, 5 })
	case api.TellAppend:
		put(func(m *api.Rpc) {})
		put(func(m *api.Rpc) { m.Index, m.Ok = 6, true })
	case api.AskSnap:
		put(func(m *api.Rpc) { m.Index, m.LogTerm, m.Members, m.Data = 9, 5, []int{1, 2, 3}, "t" })
		put(func(m *api.Rpc) { m.Index, m.LogTerm, m.Members, m.Data = 2, 1, []int{1, 2, 3}, "s" })
	}
	return l
}

// TestTakeForm: P18.3: messages that may not be, are for another, or from itself.
func TestTakeForm(t *testing.T) {
	for role := range 4 {
		r := state(role)
		for kind := api.AskPre; kind <= api.AskSnap; kind++ {
			for _, m := range someOf(kind, 5) {
				for what, change := range map[string]func(m *api.Rpc){
					"to another": func(m *api.Rpc) { m.To = 3 }, "to nobody": func(m *api.Rpc) { m.To = 0 }, "to 8": func(m *api.Rpc) { m.To = 8 },
					"from itself": func(m *api.Rpc) { m.From = 1 }, "from nobody": func(m *api.Rpc) { m.From = 0 }, "from 8": func(m *api.Rpc) { m.From = 8 },
					"of no kind": func(m *api.Rpc) { m.Kind = 0 }, "of kind 8": func(m *api.Rpc) { m.Kind = 8 },
					"of a term below": func(m *api.Rpc) { m.Term = -1 }, "of a term above": func(m *api.Rpc) { m.Term = greatest + 1 },
					"with an index below": func(m *api.Rpc) { m.Index = -1 }, "with a term of the log below": func(m *api.Rpc) { m.LogTerm = -1 },
					"with a commit below": func(m *api.Rpc) { m.Commit = -1 },
					"with both":           func(m *api.Rpc) { m.Ok, m.LogTerm = true, 1 },
					"with no members":     func(m *api.Rpc) { m.Members = []int{2, 1} },
					"with no entries":     func(m *api.Rpc) { m.Entries = []api.Entry{{}} },
				} {
					x := m
					change(&x)
					refusesTake(t, fmt.Sprint("role ", role, ": ", what), r, x)
				}
			}
		}
		refusesTake(t, "nothing", r, api.Rpc{})
		refusesTake(t, "an entry of no members", r, api.Rpc{Kind: api.AskAppend, From: 2, To: 1, Term: 5, Index: 6, LogTerm: 5, Entries: []api.Entry{conf(7, 5)}})
	}
}

// TestTakeBound: P18.3: who has a leader hears of no votes, unless that was silent for Wait ticks; it learns of no term either.
func TestTakeBound(t *testing.T) {
	for _, kind := range []int{api.AskPre, api.AskVote} {
		for _, term := range []int{4, 5, 6, greatest} {
			for _, m := range someOf(kind, term) {
				for _, sender := range []int{2, 3, 6} {
					m.From = sender
					for role := range 4 {
						r := state(role)
						r.Leader = 3
						for _, r.Elapsed = range []int{0, 4, 9} {
							takes(t, fmt.Sprint("bound, role ", role, ", elapsed ", r.Elapsed), r, m, nil)
						}
						r.Elapsed = 10
						if _, out, e := Take(r, m); e != nil || (len(out) == 0) != (role == api.Leader) {
							t.Errorf("role %d at Wait: %s, %v", role, showAll(out), e)
						}
						r.Leader, r.Elapsed = 0, 0
						if _, out, e := Take(r, m); e != nil || len(out) != 1 {
							t.Errorf("role %d, of no leader: %s, %v", role, showAll(out), e)
						}
					}
				}
			}
		}
	}
	r := state(api.Leader)
	r.Elapsed = greatest
	takes(t, "a leader itself", r, api.Rpc{Kind: api.AskVote, Term: 9, Index: 9, LogTerm: 9}, nil)
	for kind := api.TellPre; kind <= api.AskSnap; kind++ {
		if kind == api.AskVote {
			continue
		}
		bound := state(api.Follower)
		bound.Leader = 3
		for _, m := range someOf(kind, 6) {
			x, _, e := Take(bound, m)
			if want := 6; e != nil || x.Term != want && !(kind == api.TellPre && m.Ok) {
				t.Errorf("kind %d of another term: %s, %v", kind, show(x), e)
			}
		}
	}
}

// TestTakeTerms: P18.3: of a later term all fall back, unless it is one that nobody has begun; of an earlier one it is refused.
func TestTakeTerms(t *testing.T) {
	for role := range 4 {
		for kind := api.AskPre; kind <= api.AskSnap; kind++ {
			for _, term := range []int{0, 4} {
				for _, m := range someOf(kind, term) {
					r := state(role)
					r.Vote = 3
					var answers []api.Rpc
					switch kind {
					case api.AskPre, api.AskVote, api.AskAppend:
						answers = []api.Rpc{from(kind+1, 2, 5, 0, false)}
					case api.AskSnap:
						answers = []api.Rpc{from(api.TellAppend, 2, 5, 0, false)}
					}
					if role == api.Leader && (kind == api.AskPre || kind == api.AskVote) {
						answers = nil
					}
					takes(t, fmt.Sprint("an earlier term, role ", role), r, m, nil, answers...)
				}
			}
			for _, term := range []int{6, 99, greatest} {
				for _, m := range someOf(kind, term) {
					r := state(role)
					r.Vote = 3
					if role == api.Leader {
						r.Leader = 0 // else it would hear of no votes
					}
					x, _, e := Take(r, m)
					if e != nil {
						t.Fatal(e)
					}
					if kind == api.AskPre || kind == api.TellPre && m.Ok {
						if (x.Term != 5 || x.Vote != 3) && !(role == api.PreCandidate && term == 6) {
							t.Errorf("role %d, kind %d of a term to come: %s", role, kind, show(x))
						}
						continue
					}
					vote := 0
					if kind == api.AskVote && m.Index >= 6 {
						vote = 2
					}
					if x.Role != api.Follower || x.Term != term || x.Vote != vote || len(x.Votes)+len(x.Next)+len(x.Match)+len(x.Heard) > 0 {
						t.Errorf("role %d, kind %d of a later term: %s", role, kind, show(x))
					}
				}
			}
		}
		for _, m := range []api.Rpc{{Kind: api.TellPre, Term: 6}, {Kind: api.TellVote, Term: 6}, {Kind: api.TellVote, Term: 6, Ok: true}, {Kind: api.TellAppend, Term: 6}, {Kind: api.TellAppend, Term: 6, Index: 6, Ok: true}} {
			r := state(role)
			r.Vote, r.Leader = 3, 3
			takes(t, fmt.Sprint("told of a later term, role ", role), r, m, func(r *api.Raft) { fallen(r, 6) })
		}
	}
}

// TestTakeAskPre: P18.3: would it vote? It binds to nothing.
func TestTakeAskPre(t *testing.T) {
	for role := api.Follower; role < api.Leader; role++ {
		r := state(role)
		r.Vote = 3
		for _, c := range []struct {
			term, index, logTerm int
			ok                   bool
		}{
			{6, 6, 5, true}, {6, 7, 5, true}, {6, 0, 6, true}, {6, 5, 5, false}, {6, 99, 4, false}, {6, 0, 0, false},
			{5, 6, 5, false}, {5, 99, 99, false}, {4, 99, 99, false}, {7, 6, 5, true}, {greatest, 6, 5, true}, {greatest, 5, 5, false},
		} {
			for _, sender := range []int{2, 3, 6} {
				answer := from(api.TellPre, sender, 5, 0, false)
				if c.ok {
					answer = from(api.TellPre, sender, c.term, 0, true)
				}
				takes(t, fmt.Sprint("role ", role), r, api.Rpc{Kind: api.AskPre, From: sender, Term: c.term, Index: c.index, LogTerm: c.logTerm}, nil, answer)
			}
		}
	}
	empty := state(api.Follower)
	empty.Log, empty.Commit = logOf(6, 5), 6
	takes(t, "the base is last", empty, api.Rpc{Kind: api.AskPre, Term: 6, Index: 6, LogTerm: 5}, nil, from(api.TellPre, 2, 6, 0, true))
	takes(t, "the base is last", empty, api.Rpc{Kind: api.AskPre, Term: 6, Index: 5, LogTerm: 5}, nil, from(api.TellPre, 2, 5, 0, false))
	known := state(api.Follower)
	known.Leader, known.Elapsed = 3, 10
	takes(t, "the leader is silent", known, api.Rpc{Kind: api.AskPre, Term: 6, Index: 6, LogTerm: 5}, nil, from(api.TellPre, 2, 6, 0, true))
}

// TestTakeAskVote: P18.3: one vote a term, for whom has not less.
func TestTakeAskVote(t *testing.T) {
	granted := func(r *api.Raft) { r.Vote, r.Elapsed = 2, 0 }
	r := state(api.Follower)
	for _, vote := range []int{0, 2} {
		r.Vote = vote
		for _, c := range []struct {
			index, logTerm int
			ok             bool
		}{{6, 5, true}, {7, 5, true}, {0, 6, true}, {5, 5, false}, {99, 4, false}, {0, 0, false}} {
			m := api.Rpc{Kind: api.AskVote, Term: 5, Index: c.index, LogTerm: c.logTerm}
			if !c.ok {
				takes(t, "older", r, m, nil, from(api.TellVote, 2, 5, 0, false))
				m.Term = 7
				takes(t, "older, of a later term", r, m, func(r *api.Raft) { fallen(r, 7) }, from(api.TellVote, 2, 7, 0, false))
				continue
			}
			x := takes(t, "newer", r, m, granted, from(api.TellVote, 2, 5, 0, true))
			x.Elapsed = 3
			takes(t, "it comes twice", x, m, granted, from(api.TellVote, 2, 5, 0, true))
			m.From = 3
			takes(t, "of another", x, m, nil, from(api.TellVote, 3, 5, 0, false))
			m.Term = 6
			takes(t, "of another in the next term", x, m, func(r *api.Raft) { r.Term, r.Vote, r.Elapsed = 6, 3, 0 }, from(api.TellVote, 3, 6, 0, true))
		}
	}
	good := api.Rpc{Kind: api.AskVote, Term: 5, Index: 6, LogTerm: 5}
	for _, vote := range []int{1, 3, 7} {
		r.Vote = vote
		takes(t, "the vote is given", r, good, nil, from(api.TellVote, 2, 5, 0, false))
	}
	for _, role := range []int{api.PreCandidate, api.Candidate} {
		r := state(role)
		r.Vote = 1
		takes(t, "it has its own vote", r, good, nil, from(api.TellVote, 2, 5, 0, false))
		later := good
		later.Term = 6
		takes(t, "of a later term", r, later, func(r *api.Raft) { fallen(r, 6); granted(r) }, from(api.TellVote, 2, 6, 0, true))
	}
	pre := state(api.PreCandidate)
	takes(t, "who only asks first has its vote", pre, good, granted, from(api.TellVote, 2, 5, 0, true))
	stranger := good
	stranger.From = 6
	r.Vote = 0
	takes(t, "of no member", r, stranger, func(r *api.Raft) { r.Vote, r.Elapsed = 6, 0 }, from(api.TellVote, 6, 5, 0, true))
	r.Leader, r.Elapsed = 3, 10
	takes(t, "the leader is silent", r, good, granted, from(api.TellVote, 2, 5, 0, true))
	good.Term = 9
	takes(t, "the leader is silent, of a later term", r, good, func(r *api.Raft) { fallen(r, 9); granted(r) }, from(api.TellVote, 2, 9, 0, true))
	good.Term = greatest
	takes(t, "of the last term", r, good, func(r *api.Raft) { fallen(r, greatest); granted(r) }, from(api.TellVote, 2, greatest, 0, true))
}

// TestTakeTellPre: P18.3: who would vote; with enough of them it stands.
func TestTakeTellPre(t *testing.T) {
	good := api.Rpc{Kind: api.TellPre, Term: 6, Ok: true}
	r := state(api.PreCandidate)
	r.Leader, r.Vote, r.Elapsed = 3, 3, 7
	takes(t, "enough", r, good, stood, asks(api.AskVote, 6, 6, 5, 2, 3)...)
	for role := range 4 {
		for _, m := range []api.Rpc{{Term: 4, Ok: true}, {Term: 5, Ok: true}, {Term: 6, Ok: true}, {Term: 7, Ok: true}, {Term: greatest, Ok: true}, {Term: 4}, {Term: 5}} {
			if role == api.PreCandidate && m.Term == 6 {
				continue
			}
			m.Kind = api.TellPre
			takes(t, fmt.Sprint("nothing for role ", role), state(role), m, nil)
		}
	}
	five := among(r, 1, 2, 3, 4, 5)
	good.From = 4
	five = takes(t, "one fewer", five, good, func(r *api.Raft) { r.Votes = []int{1, 4} })
	five = takes(t, "it comes twice", five, good, nil)
	good.From = 6
	five = takes(t, "of no member", five, good, func(r *api.Raft) { r.Votes = []int{1, 4, 6} })
	good.From = 2
	takes(t, "enough of five", five, good, stood, asks(api.AskVote, 6, 6, 5, 2, 3, 4, 5)...)
	four := among(r, 1, 2, 3, 4)
	four = takes(t, "half of four", four, good, func(r *api.Raft) { r.Votes = []int{1, 2} })
	good.From = 3
	takes(t, "enough of four", four, good, stood, asks(api.AskVote, 6, 6, 5, 2, 3, 4)...)
	all := among(r, 1, 2, 3, 4, 5, 6, 7)
	all.Votes = []int{7}
	for k, votes := range [][]int{{5, 7}, {3, 5, 7}} {
		good.From = 5 - 2*k
		all = takes(t, "ahead of others", all, good, func(r *api.Raft) { r.Votes = votes })
	}
	out := among(r, 2)
	out.Votes = nil
	good.From = 2
	takes(t, "of no member itself", out, good, stood, asks(api.AskVote, 6, 6, 5, 2)...)
	alone := among(r, 1)
	takes(t, "of one alone it leads at once", alone, good, func(r *api.Raft) {
		stood(r)
		r.Role, r.Leader, r.Votes, r.Elapsed = api.Leader, 1, nil, 0
		r.Log.Entries = append(r.Log.Entries, api.Entry{Index: 7, Term: 6})
		r.Next, r.Match, r.Heard, r.Commit = []int{7}, []int{7}, []int{0}, 7
	})
	nobody := with(among(r), func(r *api.Raft) { r.Log, r.Snap, r.Commit = api.Log{}, "", 0 })
	takes(t, "of none there are none enough", nobody, good, func(r *api.Raft) { r.Votes = []int{1, 2} })
	last := r
	last.Term = greatest - 1
	good.Term = greatest
	takes(t, "the last term", last, good, stood, asks(api.AskVote, greatest, 6, 5, 2, 3)...)
}

// begun leads, by the chapter's words; next is what was the index behind the last one.
func begun(r *api.Raft, next int) {
	many := len(r.Members)
	r.Role, r.Leader, r.Votes, r.Elapsed = api.Leader, r.ID, nil, 0
	r.Log.Entries = append(r.Log.Entries, api.Entry{Index: next, Term: r.Term})
	r.Next, r.Match, r.Heard = slices.Repeat([]int{next}, many), make([]int, many), make([]int, many)
}

// TestTakeTellVote: P18.3: with enough votes it leads, and begins with an entry of its own.
func TestTakeTellVote(t *testing.T) {
	good := api.Rpc{Kind: api.TellVote, Term: 5, Ok: true}
	first := func(to int) api.Rpc {
		return api.Rpc{Kind: api.AskAppend, From: 1, To: to, Term: 5, Index: 6, LogTerm: 5, Commit: 3, Entries: []api.Entry{{Index: 7, Term: 5}}}
	}
	r := state(api.Candidate)
	r.Leader = 3
	led := takes(t, "enough", r, good, func(r *api.Raft) {
		begun(r, 7)
		r.Match[0] = 7
	}, first(2), first(3))
	good.From = 3
	takes(t, "one vote more", led, good, nil)
	takes(t, "of another", r, good, func(r *api.Raft) {
		begun(r, 7)
		r.Match[0] = 7
	}, first(2), first(3))
	for role := range 4 {
		takes(t, "none", state(role), api.Rpc{Kind: api.TellVote, Term: 5}, nil)
		takes(t, "late", state(role), api.Rpc{Kind: api.TellVote, Term: 4, Ok: true}, nil)
		if role != api.Candidate {
			takes(t, fmt.Sprint("nothing for role ", role), state(role), good, nil)
		}
	}
	five := among(r, 1, 2, 3, 4, 5)
	five = takes(t, "one fewer", five, good, func(r *api.Raft) { r.Votes = []int{1, 3} })
	five = takes(t, "it comes twice", five, good, nil)
	good.From = 6
	five = takes(t, "of no member", five, good, func(r *api.Raft) { r.Votes = []int{1, 3, 6} })
	good.From = 5
	takes(t, "enough of five", five, good, func(r *api.Raft) {
		begun(r, 7)
		r.Match[0] = 7
	}, first(2), first(3), first(4), first(5))
	bare := with(r, func(r *api.Raft) { r.Log, r.Commit = logOf(9, 4), 9 })
	takes(t, "behind its base", bare, good, func(r *api.Raft) { r.Votes = []int{1, 5} })
	good.From = 2
	next := api.Rpc{Kind: api.AskAppend, From: 1, To: 2, Term: 5, Index: 9, LogTerm: 4, Commit: 9, Entries: []api.Entry{{Index: 10, Term: 5}}}
	other := next
	other.To = 3
	takes(t, "behind its base", bare, good, func(r *api.Raft) {
		begun(r, 10)
		r.Match[0] = 10
	}, next, other)
}

// TestTakeFull: P18.3: with no room for its first entry nobody leads, and nothing else has changed.
func TestTakeFull(t *testing.T) {
	good := api.Rpc{Kind: api.TellVote, Term: 5, Ok: true}
	for what, l := range map[string]api.Log{
		"a full log":                 logOf(2, 1, slices.Repeat([]int{2}, 512)...),
		"a full log at the far end":  logOf(greatestBase, 1, slices.Repeat([]int{2}, 512)...),
		"a log of later terms":       logOf(2, 1, 2, 6),
		"a full log of later terms":  logOf(2, 1, slices.Repeat([]int{6}, 512)...),
		"a base of a later term yet": logOf(2, 6, 6),
	} {
		r := state(api.Candidate)
		r.Log, r.Commit, r.Leader = l, l.Base+1, 2
		takes(t, what, r, good, func(r *api.Raft) { fallen(r, 5) })
	}
	r := state(api.Candidate)
	r.Log, r.Commit = logOf(2, 1, slices.Repeat([]int{2}, 511)...), 3
	takes(t, "room for one", r, good, func(r *api.Raft) {
		begun(r, 514)
		r.Match[0] = 514
	}, api.Rpc{Kind: api.AskAppend, From: 1, To: 2, Term: 5, Index: 513, LogTerm: 2, Commit: 3, Entries: []api.Entry{{Index: 514, Term: 5}}},
		api.Rpc{Kind: api.AskAppend, From: 1, To: 3, Term: 5, Index: 513, LogTerm: 2, Commit: 3, Entries: []api.Entry{{Index: 514, Term: 5}}})
}

// TestTakeLeadNoMember: P18.3: who is no member leads only till that is settled.
func TestTakeLeadNoMember(t *testing.T) {
	good := api.Rpc{Kind: api.TellVote, Term: 5, Ok: true}
	out := []api.Rpc{{Kind: api.AskAppend, From: 1, To: 2, Term: 5, Index: 6, LogTerm: 5, Commit: 3, Entries: []api.Entry{{Index: 7, Term: 5}}}}
	r := among(state(api.Candidate), 2)
	takes(t, "its members are settled", r, good, func(r *api.Raft) {
		begun(r, 7)
		fallen(r, 5)
	}, out...)
	r.SnapMembers = []int{1, 2}
	r.Log.Entries[0] = conf(3, 2, 2)
	takes(t, "its members are settled in the log", r, good, func(r *api.Raft) {
		begun(r, 7)
		fallen(r, 5)
	}, out...)
	r.Log.Entries[0], r.Log.Entries[1] = list(3, 2)[0], conf(4, 2, 2)
	takes(t, "its members are not settled", r, good, func(r *api.Raft) { begun(r, 7) }, out...)
}

// TestTakeAskAppend: P18.3: who hears of a leader follows it.
func TestTakeAskAppend(t *testing.T) {
	beat := api.Rpc{Kind: api.AskAppend, Term: 5, Index: 6, LogTerm: 5}
	for role := range 4 {
		r := state(role)
		r.Vote = 1
		if role == api.Leader {
			takes(t, "of a leader's term", r, beat, nil)
			beat.Entries = list(7, 5)
			takes(t, "of a leader's term, with entries", r, beat, nil)
			beat.Entries = nil
		} else {
			takes(t, "a beat", r, beat, func(r *api.Raft) { fallen(r, 5); r.Leader, r.Elapsed = 2, 0 }, from(api.TellAppend, 2, 5, 6, true))
		}
		later := beat
		later.Term = 8
		takes(t, "a beat of a later term", r, later, func(r *api.Raft) { fallen(r, 8); r.Leader, r.Elapsed = 2, 0 }, from(api.TellAppend, 2, 8, 6, true))
		later.Term = greatest
		takes(t, "a beat of the last term", r, later, func(r *api.Raft) { fallen(r, greatest); r.Leader, r.Elapsed = 2, 0 }, from(api.TellAppend, 2, greatest, 6, true))
	}
	r := state(api.Follower)
	r.Leader, r.Votes = 3, []int{3}
	takes(t, "of another leader", r, beat, func(r *api.Raft) { r.Leader, r.Elapsed = 2, 0 }, from(api.TellAppend, 2, 5, 6, true))
	beat.From = 6
	takes(t, "of no member", r, beat, func(r *api.Raft) { r.Leader, r.Elapsed = 6, 0 }, from(api.TellAppend, 6, 5, 6, true))
}

// TestTakeEntries: P18.3: what comes with entries, where it fits and where not.
func TestTakeEntries(t *testing.T) {
	// Entries 3 to 6 of Terms 2, 2, 4, 5 behind the base 2 of Term 1; settled up to 3.
	all := state(api.Follower).Log.Entries
	cut := func(n int, es ...api.Entry) []api.Entry { return slices.Concat(all[:n-2], es) }
	fresh := func(from int, terms ...int) []api.Entry {
		es := list(from, terms...)
		for i := range es {
			es[i].Data = "new"
		}
		return es
	}
	for _, c := range []struct {
		what            string
		index, term, to int // to is m's Commit
		es              []api.Entry
		log             []api.Entry
		commit          int
		ok              bool
		answer          int
	}{
		{"behind the last one", 6, 5, 0, fresh(7, 5), cut(6, fresh(7, 5)...), 3, true, 7},
		{"more of them", 6, 5, 0, fresh(7, 5, 5, 5), cut(6, fresh(7, 5, 5, 5)...), 3, true, 9},
		{"as many as may be", 6, 5, 99, fresh(7, slices.Repeat([]int{5}, 16)...), cut(6, fresh(7, slices.Repeat([]int{5}, 16)...)...), 22, true, 22},
		{"commit below", 6, 5, 2, fresh(7, 5), cut(6, fresh(7, 5)...), 3, true, 7},
		{"commit between", 6, 5, 5, fresh(7, 5), cut(6, fresh(7, 5)...), 5, true, 7},
		{"commit at the end", 6, 5, 7, fresh(7, 5), cut(6, fresh(7, 5)...), 7, true, 7},
		{"commit beyond", 6, 5, greatest, fresh(7, 5), cut(6, fresh(7, 5)...), 7, true, 7},
		{"commit beyond what it tells", 4, 2, 9, nil, all, 4, true, 4},
		{"commit beyond what it tells again", 4, 2, 9, fresh(5, 4), all, 5, true, 5},
		{"commit of a beat", 6, 5, 6, nil, all, 6, true, 6},
		{"what is there", 3, 2, 0, fresh(4, 2, 4, 5), all, 3, true, 6},
		{"a part of what is there", 2, 1, 0, fresh(3, 2, 2), all, 3, true, 4},
		{"nothing of what is there", 3, 2, 0, nil, all, 3, true, 3},
		{"some are there", 5, 4, 0, fresh(6, 5, 5), cut(6, fresh(7, 5)...), 3, true, 7},
		{"another last one", 5, 4, 0, fresh(6, 4), cut(5, fresh(6, 4)...), 3, true, 6},
		{"another last one of a later term", 5, 4, 6, fresh(6, 9), cut(5, fresh(6, 9)...), 6, true, 6},
		{"others behind the settled", 3, 2, 0, fresh(4, 3), cut(3, fresh(4, 3)...), 3, true, 4},
		{"others behind what is there", 2, 1, 0, fresh(3, 2, 3, 3, 3, 3), cut(3, fresh(4, 3, 3, 3, 3)...), 3, true, 7},
		// Those from before the base are there.
		{"from before the base", 0, 0, 9, fresh(1, 1, 1, 2, 2), all, 4, true, 4},
		{"up to the base", 0, 0, 9, fresh(1, 1, 1), all, 3, true, 2},
		{"ending before the base", 0, 0, 9, fresh(1, 1), all, 3, true, 2},
		{"a beat before the base", 1, 1, 9, nil, all, 3, true, 2},
		{"a beat before the base of any term", 1, 9, 9, nil, all, 3, true, 2},
		{"a beat at the base", 2, 1, 9, nil, all, 3, true, 2},
		{"nothing at all", 0, 0, 0, nil, all, 3, true, 2},
		{"from before the base and on", 1, 1, 0, fresh(2, 1, 2, 2, 4, 5, 5), cut(6, fresh(7, 5)...), 3, true, 7},
		// A miss.
		{"beyond the end", 7, 5, 9, nil, all, 3, false, 6},
		{"beyond the end with entries", 7, 5, 9, fresh(8, 5), all, 3, false, 6},
		{"far beyond", greatest, 5, 9, nil, all, 3, false, 6},
		{"of another term at the end", 6, 4, 9, fresh(7, 5), all, 3, false, 5},
		{"of a later term at the end", 6, 9, 9, nil, all, 3, false, 5},
		{"of another term between", 5, 5, 9, fresh(6, 5), all, 3, false, 4},
		{"of another term settled", 3, 3, 9, fresh(4, 4), all, 3, false, 2},
		{"of another term at the base", 2, 2, 9, fresh(3, 2), all, 3, false, 1},
	} {
		r := state(api.Follower)
		m := api.Rpc{Kind: api.AskAppend, Term: 5, Index: c.index, LogTerm: c.term, Commit: c.to, Entries: c.es}
		for _, term := range []int{5, 6} {
			m.Term = term
			x := takes(t, c.what, r, m, func(r *api.Raft) {
				fallen(r, term)
				r.Leader, r.Elapsed, r.Log.Entries, r.Commit = 2, 0, c.log, c.commit
			}, from(api.TellAppend, 2, term, c.answer, c.ok))
			takes(t, "twice: "+c.what, x, m, nil, from(api.TellAppend, 2, term, c.answer, c.ok))
		}
	}
	first := with(state(api.Follower), func(r *api.Raft) { r.Log, r.Snap, r.Commit = api.Log{BaseTerm: 3}, "", 0 })
	heard := func(r *api.Raft) { r.Leader, r.Elapsed = 2, 0 }
	takes(t, "a miss at 0", first, api.Rpc{Kind: api.AskAppend, Term: 5, Commit: 9}, heard, from(api.TellAppend, 2, 5, 0, false))
	takes(t, "a miss at 1", first, api.Rpc{Kind: api.AskAppend, Term: 5, Index: 1, LogTerm: 3, Commit: 9}, heard, from(api.TellAppend, 2, 5, 0, false))
	first.Log.BaseTerm = 0
	takes(t, "the first one", first, api.Rpc{Kind: api.AskAppend, Term: 5, Commit: 9, Entries: list(1, 5)}, func(r *api.Raft) {
		heard(r)
		r.Log.Entries, r.Commit = list(1, 5), 1
	}, from(api.TellAppend, 2, 5, 1, true))
}

// TestTakeSettled: P18.3: what is settled is not cut, and behind what cannot be merged nothing more is done.
func TestTakeSettled(t *testing.T) {
	for settled := 2; settled <= 6; settled++ {
		r := state(api.PreCandidate)
		r.Commit = settled
		terms := map[int]int{2: 1, 3: 2, 4: 2, 5: 4, 6: 5}
		for at := 3; at <= 7; at++ {
			for ahead := 2; ahead < at; ahead++ { // the entries behind ahead are there up to at
				var es []api.Entry
				for i := ahead + 1; i < at; i++ {
					es = append(es, list(i, terms[i])...)
				}
				es = append(es, list(at, 9)...)
				m := api.Rpc{Kind: api.AskAppend, Term: 9, Index: ahead, LogTerm: terms[ahead], Commit: 9, Entries: es}
				what := fmt.Sprint("settled ", settled, ", others from ", at, " behind ", ahead)
				heard := func(r *api.Raft) { fallen(r, 9); r.Leader, r.Elapsed = 2, 0 }
				if at <= settled {
					takes(t, what, r, m, heard)
					continue
				}
				takes(t, what, r, m, func(r *api.Raft) {
					heard(r)
					r.Log.Entries, r.Commit = slices.Concat(r.Log.Entries[:at-3], list(at, 9)), at
				}, from(api.TellAppend, 2, 9, at, true))
			}
		}
	}
	heard := func(r *api.Raft) { fallen(r, 5); r.Leader, r.Elapsed = 2, 0 }
	for role := api.Follower; role < api.Leader; role++ {
		full := state(role)
		full.Log = logOf(2, 1, slices.Repeat([]int{2}, 512)...)
		takes(t, "a full log", full, api.Rpc{Kind: api.AskAppend, Term: 5, Index: 514, LogTerm: 2, Commit: 99, Entries: list(515, 5)}, heard)
		full.Log.Entries = full.Log.Entries[:511]
		takes(t, "room for one of two", full, api.Rpc{Kind: api.AskAppend, Term: 5, Index: 513, LogTerm: 2, Commit: 99, Entries: list(514, 5, 5)}, heard)
		takes(t, "a log that may not be", state(role), api.Rpc{Kind: api.AskAppend, Term: 5, Index: 1, Commit: 99, Entries: list(2, 0, 0)}, heard)
		takes(t, "settled and cut", state(role), api.Rpc{Kind: api.AskAppend, Term: 5, Index: 2, LogTerm: 1, Commit: 99, Entries: list(3, 3)}, heard)
	}
}

// TestTakeConf: P18.3: members are by the last entry of them, also behind a cut.
func TestTakeConf(t *testing.T) {
	r := state(api.Follower)
	add := api.Rpc{Kind: api.AskAppend, Term: 5, Index: 6, LogTerm: 5, Entries: []api.Entry{conf(7, 5, 1, 2, 3, 4), {Index: 8, Term: 5}, conf(9, 5, 1, 2, 4), {Index: 10, Term: 5}}}
	heard := func(r *api.Raft) { r.Leader, r.Elapsed = 2, 0 }
	x := takes(t, "members", r, add, func(r *api.Raft) {
		heard(r)
		r.Log.Entries = append(r.Log.Entries, add.Entries...)
		r.Members = []int{1, 2, 4}
	}, from(api.TellAppend, 2, 5, 10, true))
	y := takes(t, "cut to the one before", x, api.Rpc{Kind: api.AskAppend, Term: 5, Index: 8, LogTerm: 5, Entries: list(9, 6)}, func(r *api.Raft) {
		r.Log.Entries = append(r.Log.Entries[:6], list(9, 6)...)
		r.Members = []int{1, 2, 3, 4}
	}, from(api.TellAppend, 2, 5, 9, true))
	takes(t, "cut to the snapshot's", y, api.Rpc{Kind: api.AskAppend, Term: 5, Index: 6, LogTerm: 5, Entries: list(7, 6)}, func(r *api.Raft) {
		r.Log.Entries = append(r.Log.Entries[:4], list(7, 6)...)
		r.Members = []int{1, 2, 3}
	}, from(api.TellAppend, 2, 5, 7, true))
	takes(t, "others in their place", y, api.Rpc{Kind: api.AskAppend, Term: 5, Index: 6, LogTerm: 5, Entries: []api.Entry{conf(7, 6, 7)}}, func(r *api.Raft) {
		r.Log.Entries = append(r.Log.Entries[:4], conf(7, 6, 7))
		r.Members = []int{7}
	}, from(api.TellAppend, 2, 5, 7, true))
}

// TestTakeSnap: P18.3: a snapshot that is older, of an entry that is there, of one of another term, and beyond the log.
func TestTakeSnap(t *testing.T) {
	// Entries 3 to 6 of Terms 2, 2, 4, 5; settled up to 4, of Term 2.
	base := with(state(api.Follower), func(r *api.Raft) {
		r.Commit = 4
		r.Log.Entries[3] = conf(6, 5, 1, 2)
		r.Members = []int{1, 2}
	})
	es := base.Log.Entries
	for _, c := range []struct {
		what        string
		index, term int
		taken       bool
		left        []api.Entry
	}{
		{"older", 1, 1, false, nil}, {"of the base", 2, 1, false, nil}, {"of what is settled", 3, 2, false, nil}, {"just what is settled", 4, 2, false, nil}, {"just what is settled, of another term", 4, 9, false, nil},
		{"of an entry", 5, 4, true, es[3:]}, {"of the last entry", 6, 5, true, nil},
		{"of an entry with a later term", 5, 5, true, nil}, {"of an entry with an earlier term", 5, 3, true, nil}, {"of the last one with an earlier term", 6, 2, true, nil},
		{"of an entry with a term before what is settled", 5, 1, false, nil}, {"beyond, with a term before what is settled", 9, 1, false, nil}, {"beyond, with none", 9, 0, false, nil},
		{"beyond", 7, 5, true, nil}, {"beyond, of its term", 7, 2, true, nil}, {"far beyond", greatestBase, 5, true, nil},
	} {
		for role := api.Follower; role < api.Leader; role++ {
			r := with(base, func(r *api.Raft) { r.Role, r.Votes = role, state(role).Votes })
			m := api.Rpc{Kind: api.AskSnap, Term: 5, Index: c.index, LogTerm: c.term, Members: []int{2, 5}, Data: "t"}
			after := func(r *api.Raft) {
				fallen(r, 5)
				r.Leader, r.Elapsed = 2, 0
				if c.taken {
					r.Log = api.Log{Base: c.index, BaseTerm: c.term, Entries: c.left}
					r.Snap, r.SnapMembers, r.Commit, r.Members = "t", []int{2, 5}, c.index, []int{2, 5}
				}
				if len(c.left) > 0 {
					r.Members = []int{1, 2}
				}
			}
			x := takes(t, c.what, r, m, after, from(api.TellAppend, 2, 5, max(4, (with(r, after)).Commit), true))
			takes(t, "twice: "+c.what, x, m, nil, from(api.TellAppend, 2, 5, x.Commit, true))
			m.Term = 7
			takes(t, "of a later term: "+c.what, r, m, func(r *api.Raft) { fallen(r, 7); after(r) }, from(api.TellAppend, 2, 7, x.Commit, true))
		}
	}
	m := api.Rpc{Kind: api.AskSnap, Term: 5, Index: 9, LogTerm: 5, Members: []int{2, 5}, Data: strings.Repeat("t", greatestSnap)}
	takes(t, "of a leader's term", state(api.Leader), m, nil)
	r, e := New(1, 4, nil)
	want(t, "New", e, 0)
	takes(t, "of nothing", r, m, func(r *api.Raft) {
		r.Term, r.Leader, r.Elapsed = 5, 2, 0
		r.Log, r.Snap, r.SnapMembers, r.Members, r.Commit = api.Log{Base: 9, BaseTerm: 5}, m.Data, []int{2, 5}, []int{2, 5}, 9
	}, from(api.TellAppend, 2, 5, 9, true))
	m.Data = ""
	takes(t, "without bytes", base, m, func(r *api.Raft) {
		r.Leader, r.Elapsed = 2, 0
		r.Log, r.Snap, r.SnapMembers, r.Members, r.Commit = api.Log{Base: 9, BaseTerm: 5}, "", []int{2, 5}, []int{2, 5}, 9
	}, from(api.TellAppend, 2, 5, 9, true))
	bare := with(base, func(r *api.Raft) { r.Log, r.Commit, r.Members = logOf(6, 3), 6, []int{1, 2, 3} })
	m = api.Rpc{Kind: api.AskSnap, Term: 5, Index: 7, LogTerm: 2, Members: []int{2}}
	takes(t, "with a term before the base's", bare, m, func(r *api.Raft) { r.Leader, r.Elapsed = 2, 0 }, from(api.TellAppend, 2, 5, 6, true))
}

// TestTakeTold: P18.3: answers of members to their leader.
func TestTakeTold(t *testing.T) {
	// Entries 3 to 6 of Terms 2, 2, 4, 5; Next 7 7 5, Match 6 4 0, Heard 0 1 2; settled up to 3.
	base := state(api.Leader)
	es := base.Log.Entries
	for role := api.Follower; role < api.Leader; role++ {
		takes(t, "of no leader", state(role), api.Rpc{Kind: api.TellAppend, Term: 5, Index: 6, Ok: true}, nil)
		takes(t, "of no leader", state(role), api.Rpc{Kind: api.TellAppend, Term: 5, Index: 3}, nil)
	}
	for _, ok := range []bool{false, true} {
		takes(t, "of no member", base, api.Rpc{Kind: api.TellAppend, From: 4, Term: 5, Index: 6, Ok: ok}, nil)
		takes(t, "late", base, api.Rpc{Kind: api.TellAppend, Term: 4, Index: 6, Ok: ok}, nil)
	}
	told := func(index int, ok bool) api.Rpc {
		return api.Rpc{Kind: api.TellAppend, From: 3, Term: 5, Index: index, Ok: ok}
	}
	sent := func(index, term, commit int, es []api.Entry) api.Rpc {
		return api.Rpc{Kind: api.AskAppend, From: 1, To: 3, Term: 5, Index: index, LogTerm: term, Commit: commit, Entries: es}
	}
	snapshot := api.Rpc{Kind: api.AskSnap, From: 1, To: 3, Term: 5, Index: 2, LogTerm: 1, Members: []int{1, 2, 3}, Data: "s"}
	next := func(next, match, commit int) func(r *api.Raft) {
		return func(r *api.Raft) { r.Next[2], r.Match[2], r.Heard[2], r.Commit = next, match, 0, commit }
	}
	// With a Match of 4 at node 2 not more than half have any of this term, till node 3 has 6.
	x := takes(t, "Ok, all of them", base, told(6, true), next(7, 6, 6))
	takes(t, "it comes twice", x, told(6, true), next(7, 6, 6))
	takes(t, "it comes late", x, told(4, true), next(7, 6, 6))
	takes(t, "it comes late, not Ok", x, told(2, false), next(7, 6, 6), sent(6, 5, 6, nil))
	takes(t, "Ok, some", base, told(4, true), next(5, 4, 3), sent(4, 2, 3, es[2:]))
	takes(t, "Ok, all but one, of an earlier term", base, told(5, true), next(6, 5, 3), sent(5, 4, 3, es[3:]))
	takes(t, "Ok, nothing", base, told(0, true), next(1, 0, 3), snapshot)
	takes(t, "Ok, before the base", base, told(1, true), next(2, 1, 3), snapshot)
	takes(t, "Ok, the base", base, told(2, true), next(3, 2, 3), sent(2, 1, 3, es))
	for _, index := range []int{7, 8, greatest} {
		takes(t, "Ok, beyond the last", base, told(index, true), func(r *api.Raft) { r.Heard[2] = 0 })
	}
	for _, c := range []struct{ next, match, index, want int }{
		{5, 0, 9, 4}, {5, 0, 4, 4}, {5, 0, 3, 4}, {5, 0, 2, 3}, {5, 0, greatest, 4}, {7, 0, 6, 6}, {7, 4, 0, 5}, {7, 4, 3, 5}, {7, 4, 4, 5}, {7, 4, 5, 6}, {7, 5, 3, 6}, {5, 4, 0, 5}, {5, 4, 4, 5}, {7, 6, 0, 7}, {3, 6, 0, 7}, {4, 3, 3, 4},
	} {
		r := with(base, func(r *api.Raft) { r.Next[2], r.Match[2] = c.next, c.match })
		term := map[int]int{2: 1, 3: 2, 4: 2, 5: 4, 6: 5}[c.want-1]
		takes(t, fmt.Sprint("not Ok: ", c), r, told(c.index, false), func(r *api.Raft) { r.Next[2], r.Heard[2] = c.want, 0 }, sent(c.want-1, term, 3, es[c.want-3:]))
	}
	for _, c := range []struct{ next, index, want int }{{5, 0, 1}, {5, 1, 2}, {2, 9, 1}, {1, 9, 1}, {1, 0, 1}, {3, 9, 2}} {
		r := with(base, func(r *api.Raft) { r.Next[2] = c.next })
		takes(t, fmt.Sprint("not Ok, back to the snapshot: ", c), r, told(c.index, false), func(r *api.Raft) { r.Next[2], r.Heard[2] = c.want, 0 }, snapshot)
	}
	r := with(base, func(r *api.Raft) { r.Log, r.Match = logOf(2, 1, slices.Repeat([]int{5}, 40)...), []int{0, 0, 0} })
	takes(t, "at most MaxSend", r, told(5, true), func(r *api.Raft) {
		next(6, 5, 5)(r)
		r.Match[0] = 42
	}, sent(5, 5, 5, r.Log.Entries[3:19]))
	takes(t, "the last MaxSend", r, told(26, true), func(r *api.Raft) {
		next(27, 26, 26)(r)
		r.Match[0] = 42
	}, sent(26, 5, 26, r.Log.Entries[24:]))
}

// TestTakeSettle: P18.3: what is settled: more than half have it, and its term is the leader's.
func TestTakeSettle(t *testing.T) {
	for _, c := range []struct {
		match  []int // ahead of an answer of node 2
		index  int
		commit int
		want   int
	}{
		{[]int{0, 0}, 6, 3, 6}, {[]int{0, 0}, 5, 3, 3}, {[]int{0, 5}, 6, 3, 6}, {[]int{6, 5}, 4, 6, 6},
		{[]int{0, 0, 0}, 6, 3, 6}, {[]int{0, 0, 6}, 2, 3, 6}, {[]int{0, 0, 0}, 5, 3, 3}, {[]int{0, 0, 5}, 4, 3, 3},
		{[]int{0, 0, 0, 0}, 6, 3, 3}, {[]int{0, 0, 6, 0}, 6, 3, 6}, {[]int{0, 0, 5, 0}, 6, 3, 3},
		{[]int{0, 0, 0, 0, 0}, 6, 3, 3}, {[]int{0, 0, 0, 6, 0}, 6, 3, 6}, {[]int{0, 0, 6, 6, 6}, 0, 3, 6},
		{[]int{0, 0, 1, 1}, 1, 5, 5},
	} {
		r := among(state(api.Leader), []int{1, 2, 3, 4, 5}[:len(c.match)]...)
		r.Match, r.Commit = slices.Clone(c.match), c.commit
		x, _, e := Take(r, api.Rpc{Kind: api.TellAppend, From: 2, To: 1, Term: 5, Index: c.index, Ok: true})
		if e != nil || x.Commit != c.want || x.Match[0] != 6 || x.Next[0] != 7 || x.Role != api.Leader {
			t.Errorf("match %v and %d at node 2: %s, %v", c.match, c.index, show(x), e)
		}
		mayBe(t, "Take", x, nil)
	}
}

// TestTakeNoMember: P18.3: who leads and is no member any more falls back once that is settled.
func TestTakeNoMember(t *testing.T) {
	base := with(among(state(api.Leader), 1, 2, 3), func(r *api.Raft) {
		r.Log.Entries[3] = conf(6, 5, 2, 3)
		r.Log.Entries = append(r.Log.Entries, list(7, 5)...)
		r.Members, r.Next, r.Match, r.Heard = []int{2, 3}, []int{8, 4}, []int{7, 3}, []int{0, 3}
	})
	told := func(index int) api.Rpc {
		return api.Rpc{Kind: api.TellAppend, From: 3, Term: 5, Index: index, Ok: true}
	}
	sent := func(index, term, commit int) api.Rpc {
		return api.Rpc{Kind: api.AskAppend, From: 1, To: 3, Term: 5, Index: index, LogTerm: term, Commit: commit, Entries: base.Log.Entries[index-2:]}
	}
	takes(t, "not settled", base, told(5), func(r *api.Raft) { r.Next[1], r.Match[1], r.Heard[1] = 6, 5, 0 }, sent(5, 4, 3))
	takes(t, "just settled, it sends no more", base, told(6), func(r *api.Raft) {
		r.Commit = 6
		fallen(r, 5)
	})
	takes(t, "settled with more", base, told(7), func(r *api.Raft) {
		r.Commit = 7
		fallen(r, 5)
	})
	takes(t, "it counts no more itself", with(base, func(r *api.Raft) { r.Match = []int{0, 0} }), told(7), func(r *api.Raft) {
		r.Next[1], r.Match = 8, []int{0, 7}
		r.Heard[1] = 0
	})
	before := with(base, func(r *api.Raft) { r.Commit = 6 })
	takes(t, "settled before, with nothing newly", before, told(4), func(r *api.Raft) { fallen(r, 5) })
	takes(t, "settled before, and not asked", before, api.Rpc{Kind: api.TellAppend, From: 3, Term: 5, Index: 4}, func(r *api.Raft) { r.Next[1], r.Heard[1] = 4, 0 }, sent(3, 2, 6))
	term := with(base, func(r *api.Raft) { r.Log.Entries[3].Term, r.Log.Entries[4].Term = 4, 4 })
	takes(t, "of an earlier term it is not settled", term, told(7), func(r *api.Raft) { r.Next[1], r.Match[1], r.Heard[1] = 8, 7, 0 })
}
