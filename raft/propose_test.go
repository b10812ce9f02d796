package raft

import (
	"fmt"
	"math"
	"slices"
	"strings"
	"testing"

	"dovecote/api"
)

// own is a leader's state whose Commit is of its own term.
func own() api.Raft {
	r := state(api.Leader)
	r.Commit = 6
	return r
}

// fullOf is r with a log of that many entries of its term, all settled.
func fullOf(r api.Raft, many int) api.Raft {
	r.Log = logOf(2, 1, slices.Repeat([]int{r.Term}, many)...)
	r.Commit = 2 + many
	return r
}

// TestProposeErrors: P18.4: each error, ahead of the later ones.
func TestProposeErrors(t *testing.T) {
	long := strings.Repeat("x", api.MaxEntry+1)
	pending := with(own(), func(r *api.Raft) { r.Commit = 5; r.Log.Entries[3] = conf(6, 5, 1, 2, 3) })
	states := map[string]api.Raft{"follower": state(api.Follower), "asks first": state(api.PreCandidate), "candidate": state(api.Candidate), "leader": own(), "with a full log": fullOf(own(), 512), "with a change": pending, "of an earlier commit": state(api.Leader)}
	for what, r := range states {
		for _, kind := range []int{api.EntryNone, -1, 3, math.MinInt, math.MaxInt} {
			for _, data := range []string{"", "x", "\x01\x02", long} {
				refusesPropose(t, fmt.Sprint("kind ", kind, " of ", what), r, kind, data, api.ErrForm)
			}
		}
		refusesPropose(t, "too long, of "+what, r, api.EntryData, long, api.ErrForm)
		for _, data := range []string{"", "\x00", "\x02\x01", "\x01\x01", "\x08", "\x01\x02\x03\x04\x05\x06\x07\x08", "\xff", long} {
			refusesPropose(t, fmt.Sprintf("members %.9q of %s", data, what), r, api.EntryConf, data, api.ErrForm)
		}
		if r.Role != api.Leader {
			for _, data := range []string{"\x01\x02", "\x01\x02\x03", "\x05"} { // those who are no change, too
				refusesPropose(t, what, r, api.EntryConf, data, api.ErrState)
			}
			refusesPropose(t, what, r, api.EntryData, "", api.ErrState)
		}
	}
	for what, r := range map[string]api.Raft{"with a change": pending, "of an earlier commit": state(api.Leader),
		"of an earlier commit and with a full log": with(fullOf(own(), 512), func(r *api.Raft) { r.Commit = 2 }),
		"of the base's term":                       with(own(), func(r *api.Raft) { r.Log, r.Commit = logOf(6, 4), 6 })} {
		for _, data := range []string{"\x01\x02", "\x01\x02\x03\x04", "\x01\x02\x03", "\x05"} {
			refusesPropose(t, what, r, api.EntryConf, data, api.ErrState)
		}
	}
	for what, r := range map[string]api.Raft{"leader": own(), "with a full log": fullOf(own(), 512)} {
		for _, members := range [][]int{{1, 2, 3}, {1}, {1, 4}, {1, 2, 4}, {1, 2, 3, 4, 5}, {4, 5, 6}, {1, 2, 4, 5}} {
			refusesPropose(t, fmt.Sprint(what, ", no change: ", members), r, api.EntryConf, bytesOf(members), api.ErrForm)
		}
	}
	full := fullOf(own(), 512)
	refusesPropose(t, "full", full, api.EntryData, "", api.ErrFull)
	refusesPropose(t, "full", full, api.EntryConf, "\x01\x02", api.ErrFull)
	later := with(own(), func(r *api.Raft) { r.Log = logOf(2, 1, 2, 2, 4, 6) })
	refusesPropose(t, "a log of later terms", later, api.EntryData, "", api.ErrForm)
	later.Log = logOf(2, 1, slices.Repeat([]int{6}, 512)...)
	refusesPropose(t, "a full log of later terms", later, api.EntryData, "", api.ErrFull)
}

// TestProposeData: P18.4: an entry is put behind, and goes to those who lack nothing else.
func TestProposeData(t *testing.T) {
	for _, commit := range []int{3, 6} {
		for _, data := range []string{"", "x", "\x00\xff", strings.Repeat("x", api.MaxEntry)} {
			one := api.Entry{Index: 7, Term: 5, Kind: api.EntryData, Data: data}
			r := with(state(api.Leader), func(r *api.Raft) { r.Commit = commit })
			r = proposes(t, "data", r, api.EntryData, data, 7, func(r *api.Raft) {
				r.Log.Entries = append(r.Log.Entries, one)
				r.Match[0] = 7
			}, api.Rpc{Kind: api.AskAppend, From: 1, To: 2, Term: 5, Index: 6, LogTerm: 5, Commit: commit, Entries: []api.Entry{one}})
			// The first one is on its way: nobody's Next is the second one's.
			proposes(t, "one more", r, api.EntryData, "y", 8, func(r *api.Raft) {
				r.Log.Entries = append(r.Log.Entries, api.Entry{Index: 8, Term: 5, Kind: api.EntryData, Data: "y"})
				r.Match[0] = 8
			})
		}
	}
	r := state(api.Leader)
	r.Next = []int{1, 7, 7}
	one := api.Entry{Index: 7, Term: 5, Kind: api.EntryData, Data: "x"}
	sent := func(to int) api.Rpc {
		return api.Rpc{Kind: api.AskAppend, From: 1, To: to, Term: 5, Index: 6, LogTerm: 5, Commit: 3, Entries: []api.Entry{one}}
	}
	after := func(r *api.Raft) {
		r.Log.Entries = append(r.Log.Entries, one)
		r.Match[0] = 7
	}
	proposes(t, "to all", r, api.EntryData, "x", 7, after, sent(2), sent(3))
	r.Next = []int{7, 6, 1}
	proposes(t, "to nobody", r, api.EntryData, "x", 7, after)
	r.Match = []int{0, 6, 6}
	proposes(t, "what they have is settled with it", r, api.EntryData, "x", 7, func(r *api.Raft) {
		after(r)
		r.Commit = 6
	})
	bare := with(state(api.Leader), func(r *api.Raft) {
		r.Log, r.Commit, r.Match, r.Next = logOf(6, 4), 6, []int{6, 6, 0}, []int{7, 7, 6}
	})
	other := sent(2)
	other.Index, other.LogTerm, other.Commit = 6, 4, 6
	proposes(t, "behind the base", bare, api.EntryData, "x", 7, after, other)
}

// TestProposeAlone: P18.4: of one alone it is settled at once.
func TestProposeAlone(t *testing.T) {
	r := among(state(api.Leader), 1)
	r = proposes(t, "alone", r, api.EntryData, "x", 7, func(r *api.Raft) {
		r.Log.Entries = append(r.Log.Entries, api.Entry{Index: 7, Term: 5, Kind: api.EntryData, Data: "x"})
		r.Match, r.Commit = []int{7}, 7
	})
	r = with(among(fullOf(r, 511), 1), func(r *api.Raft) { r.Commit = 99 })
	r = proposes(t, "the last one that has room", r, api.EntryData, "y", 514, func(r *api.Raft) {
		r.Log.Entries = append(r.Log.Entries, api.Entry{Index: 514, Term: 5, Kind: api.EntryData, Data: "y"})
		r.Match, r.Commit = []int{514}, 514
	})
	refusesPropose(t, "full", r, api.EntryData, "", api.ErrFull)
	r = compacts(t, "full", r, 3, "t", func(r *api.Raft) { r.Log.Base, r.Log.BaseTerm, r.Log.Entries, r.Snap = 3, 5, r.Log.Entries[1:], "t" })
	proposes(t, "with room again", r, api.EntryData, "z", 515, func(r *api.Raft) {
		r.Log.Entries = append(r.Log.Entries, api.Entry{Index: 515, Term: 5, Kind: api.EntryData, Data: "z"})
		r.Match, r.Commit = []int{515}, 515
	})
	far := with(among(state(api.Leader), 1), func(r *api.Raft) {
		r.Log, r.Commit = logOf(greatestBase, 1, slices.Repeat([]int{5}, 511)...), greatestBase
		r.Match[0] = greatestBase
	})
	last := greatestBase + 512
	proposes(t, "the last one of all", far, api.EntryData, "z", last, func(r *api.Raft) {
		r.Log.Entries = append(r.Log.Entries, api.Entry{Index: last, Term: 5, Kind: api.EntryData, Data: "z"})
		r.Match, r.Commit = []int{last}, last
	})
}

// TestProposeConf: P18.4: members that are added, taken away, and the leader itself.
func TestProposeConf(t *testing.T) {
	base := own()
	es := base.Log.Entries
	sent := func(to, next int, one api.Entry) api.Rpc {
		rest := slices.Concat(es, []api.Entry{one})[next-3:]
		term := map[int]int{2: 1, 3: 2, 4: 2, 5: 4, 6: 5, 7: 5}[next-1]
		return api.Rpc{Kind: api.AskAppend, From: 1, To: to, Term: 5, Index: next - 1, LogTerm: term, Commit: 6, Entries: rest}
	}
	for _, c := range []struct {
		members           []int
		next, match, hear []int
		sent              map[int]int // Next by to whom it sends
	}{
		{[]int{1, 2, 3, 4}, []int{7, 7, 5, 8}, []int{7, 4, 0, 0}, []int{0, 1, 2, 0}, map[int]int{2: 7, 4: 8}},
		{[]int{1, 2, 3, 7}, []int{7, 7, 5, 8}, []int{7, 4, 0, 0}, []int{0, 1, 2, 0}, map[int]int{2: 7, 7: 8}},
		{[]int{1, 2}, []int{7, 7}, []int{7, 4}, []int{0, 1}, map[int]int{2: 7}},
		{[]int{1, 3}, []int{7, 5}, []int{7, 0}, []int{0, 2}, nil},
		{[]int{2, 3}, []int{7, 5}, []int{4, 0}, []int{1, 2}, map[int]int{2: 7}},
	} {
		one := conf(7, 5, c.members...)
		var out []api.Rpc
		for _, id := range c.members {
			if next := c.sent[id]; next > 0 {
				out = append(out, sent(id, next, one))
			}
		}
		r := proposes(t, fmt.Sprint("members ", c.members), base, api.EntryConf, bytesOf(c.members), 7, func(r *api.Raft) {
			r.Log.Entries = append(r.Log.Entries, one)
			r.Members, r.Next, r.Match, r.Heard = c.members, c.next, c.match, c.hear
		}, out...)
		refusesPropose(t, "a change in between", r, api.EntryConf, "\x01\x02\x03", api.ErrState)
	}
	// Ahead of those who were there already.
	two := with(own(), func(r *api.Raft) {
		r.ID, r.Leader, r.SnapMembers, r.Members, r.Next, r.Match, r.Heard = 5, 5, []int{4, 5}, []int{4, 5}, []int{7, 7}, []int{4, 6}, []int{3, 0}
	})
	one := conf(7, 5, 2, 4, 5)
	fresh, old := sent(2, 8, one), sent(4, 7, one)
	fresh.From, old.From = 5, 5
	proposes(t, "ahead of others", two, api.EntryConf, "\x02\x04\x05", 7, func(r *api.Raft) {
		r.Log.Entries = append(r.Log.Entries, one)
		r.Members, r.Next, r.Match, r.Heard = []int{2, 4, 5}, []int{8, 7, 7}, []int{0, 4, 7}, []int{0, 3, 0}
	}, fresh, old)
	fresh, one = sent(6, 8, conf(7, 5, 4, 5, 6)), conf(7, 5, 4, 5, 6)
	old = sent(4, 7, one)
	fresh.From, old.From = 5, 5
	proposes(t, "behind others", two, api.EntryConf, "\x04\x05\x06", 7, func(r *api.Raft) {
		r.Log.Entries = append(r.Log.Entries, one)
		r.Members, r.Next, r.Match, r.Heard = []int{4, 5, 6}, []int{7, 7, 8}, []int{4, 7, 0}, []int{3, 0, 0}
	}, old, fresh)
}

// TestProposeConfSettled: P18.4: a change is settled by the new members, and the next one may come then.
func TestProposeConfSettled(t *testing.T) {
	r := with(among(state(api.Leader), 1, 2), func(r *api.Raft) { r.Commit = 6; r.Elapsed = 0 })
	one := conf(7, 5, 1)
	r = proposes(t, "to be alone", r, api.EntryConf, "\x01", 7, func(r *api.Raft) {
		r.Log.Entries = append(r.Log.Entries, one)
		r.Members, r.Next, r.Match, r.Heard, r.Commit = []int{1}, []int{7}, []int{7}, []int{0}, 7
	})
	two := conf(8, 5, 1, 3)
	r = proposes(t, "one more", r, api.EntryConf, "\x01\x03", 8, func(r *api.Raft) {
		r.Log.Entries = append(r.Log.Entries, two)
		r.Members, r.Next, r.Match, r.Heard = []int{1, 3}, []int{7, 9}, []int{8, 0}, []int{0, 0}
	}, api.Rpc{Kind: api.AskAppend, From: 1, To: 3, Term: 5, Index: 8, LogTerm: 5, Commit: 7})
	refusesPropose(t, "a change in between", r, api.EntryConf, "\x01", api.ErrState)
	r = takes(t, "it misses all", r, api.Rpc{Kind: api.TellAppend, From: 3, Term: 5}, func(r *api.Raft) { r.Next[1] = 1 },
		api.Rpc{Kind: api.AskSnap, From: 1, To: 3, Term: 5, Index: 2, LogTerm: 1, Members: []int{1, 2}, Data: "s"})
	r = takes(t, "it has the snapshot", r, api.Rpc{Kind: api.TellAppend, From: 3, Term: 5, Index: 2, Ok: true}, func(r *api.Raft) { r.Next[1], r.Match[1] = 3, 2 },
		api.Rpc{Kind: api.AskAppend, From: 1, To: 3, Term: 5, Index: 2, LogTerm: 1, Commit: 7, Entries: r.Log.Entries})
	r = takes(t, "it has all", r, api.Rpc{Kind: api.TellAppend, From: 3, Term: 5, Index: 8, Ok: true}, func(r *api.Raft) { r.Next[1], r.Match[1], r.Commit = 9, 8, 8 })
	three := conf(9, 5, 3)
	r = proposes(t, "without itself", r, api.EntryConf, "\x03", 9, func(r *api.Raft) {
		r.Log.Entries = append(r.Log.Entries, three)
		r.Members, r.Next, r.Match, r.Heard = []int{3}, []int{9}, []int{8}, []int{0}
	}, api.Rpc{Kind: api.AskAppend, From: 1, To: 3, Term: 5, Index: 8, LogTerm: 5, Commit: 8, Entries: []api.Entry{three}})
	four := api.Entry{Index: 10, Term: 5, Kind: api.EntryData, Data: "x"}
	r = proposes(t, "it still leads", r, api.EntryData, "x", 10, func(r *api.Raft) { r.Log.Entries = append(r.Log.Entries, four) })
	takes(t, "and then no more", r, api.Rpc{Kind: api.TellAppend, From: 3, Term: 5, Index: 9, Ok: true}, func(r *api.Raft) {
		r.Commit = 9
		fallen(r, 5)
	})
}

// TestProposeNoMember: P18.4: who is no member any more, and that is settled, leads no more behind what it proposes.
func TestProposeNoMember(t *testing.T) {
	r := with(among(state(api.Leader), 2, 3), func(r *api.Raft) { r.Commit = 6 })
	one := api.Entry{Index: 7, Term: 5, Kind: api.EntryData, Data: "x"}
	sent := []api.Rpc{{Kind: api.AskAppend, From: 1, To: 2, Term: 5, Index: 6, LogTerm: 5, Commit: 6, Entries: []api.Entry{one}}, {Kind: api.AskAppend, From: 1, To: 3, Term: 5, Index: 6, LogTerm: 5, Commit: 6, Entries: []api.Entry{one}}}
	proposes(t, "data", r, api.EntryData, "x", 7, func(r *api.Raft) {
		r.Log.Entries = append(r.Log.Entries, one)
		fallen(r, 5)
	}, sent...)
	two := conf(7, 5, 2, 3, 4)
	proposes(t, "others as members", r, api.EntryConf, "\x02\x03\x04", 7, func(r *api.Raft) {
		r.Log.Entries = append(r.Log.Entries, two)
		r.Members, r.Next, r.Match, r.Heard = []int{2, 3, 4}, []int{7, 7, 8}, []int{6, 6, 0}, []int{0, 0, 0}
	}, api.Rpc{Kind: api.AskAppend, From: 1, To: 2, Term: 5, Index: 6, LogTerm: 5, Commit: 6, Entries: []api.Entry{two}},
		api.Rpc{Kind: api.AskAppend, From: 1, To: 3, Term: 5, Index: 6, LogTerm: 5, Commit: 6, Entries: []api.Entry{two}},
		api.Rpc{Kind: api.AskAppend, From: 1, To: 4, Term: 5, Index: 7, LogTerm: 5, Commit: 6})
}

// TestCompact: P18.5: at each index, with members from an entry and from the snapshot.
func TestCompact(t *testing.T) {
	for role := range 4 {
		for commit := 2; commit <= 6; commit++ {
			r := with(state(role), func(r *api.Raft) {
				r.Commit = commit
				r.Log.Entries[1], r.Log.Entries[3] = conf(4, 2, 1, 2), conf(6, 5, 1, 2, 7)
				r.Members = []int{1, 2, 7}
			})
			es := r.Log.Entries
			for i := 3; i <= commit; i++ {
				for _, snap := range []string{"", "t", strings.Repeat("t", greatestSnap)} {
					compacts(t, fmt.Sprint("at ", i, " of ", commit), r, i, snap, func(r *api.Raft) {
						r.Log = api.Log{Base: i, BaseTerm: es[i-3].Term, Entries: es[i-2:]}
						r.Snap = snap
						r.SnapMembers = map[int][]int{3: {1, 2, 3}, 4: {1, 2}, 5: {1, 2}, 6: {1, 2, 7}}[i]
					})
				}
				refusesCompact(t, "too long", r, i, strings.Repeat("t", greatestSnap+1))
			}
			for _, i := range []int{math.MinInt, -1, 0, 1, 2, commit + 1, 6 + 1, math.MaxInt} {
				refusesCompact(t, fmt.Sprint("at ", i, " of ", commit), r, i, "t")
			}
		}
	}
}

// TestCompactEdges: P18.5: from the first entry on, at the greatest base, and without members.
func TestCompactEdges(t *testing.T) {
	r := with(state(api.Follower), func(r *api.Raft) { r.Log, r.Snap, r.Commit = logOf(0, 0, 1, 1), "", 2 })
	compacts(t, "the first one", r, 1, "", func(r *api.Raft) { r.Log = api.Log{Base: 1, BaseTerm: 1, Entries: list(2, 1)} })
	compacts(t, "all", r, 2, "t", func(r *api.Raft) { r.Log = api.Log{Base: 2, BaseTerm: 1}; r.Snap = "t" })
	refusesCompact(t, "at 0", r, 0, "")
	far := with(state(api.Follower), func(r *api.Raft) {
		r.Log, r.Commit = logOf(greatestBase-2, 1, 1, 1, 1, 1), greatestBase+2
	})
	compacts(t, "at the greatest base", far, greatestBase, "t", func(r *api.Raft) {
		r.Log, r.Snap = api.Log{Base: greatestBase, BaseTerm: 1, Entries: list(greatestBase+1, 1, 1)}, "t"
	})
	refusesCompact(t, "beyond it", far, greatestBase+1, "t")
	// A node that is taken in hears first of what was ahead of that.
	young := with(state(api.Follower), func(r *api.Raft) {
		r.Log, r.Snap, r.SnapMembers, r.Commit = logOf(0, 0, 1, 1, 1), "", nil, 2
		r.Log.Entries[2] = conf(3, 1, 1, 2, 3)
	})
	refusesCompact(t, "without members yet", young, 1, "t")
	refusesCompact(t, "without members yet", young, 2, "t")
	young.Commit = 3
	compacts(t, "with members", young, 3, "t", func(r *api.Raft) {
		r.Log, r.Snap, r.SnapMembers = api.Log{Base: 3, BaseTerm: 1}, "t", []int{1, 2, 3}
	})
}
