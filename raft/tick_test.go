package raft

import (
	"fmt"
	"slices"
	"testing"

	"dovecote/api"
)

// asks are messages of that kind from node 1 to these, as it asks for votes.
func asks(kind, term, index, logTerm int, to ...int) (l []api.Rpc) {
	for _, id := range to {
		l = append(l, api.Rpc{Kind: kind, From: 1, To: id, Term: term, Index: index, LogTerm: logTerm})
	}
	return l
}

// stood stands in the next term, by the chapter's words.
func stood(r *api.Raft) {
	r.Term++
	r.Vote, r.Role, r.Leader, r.Votes = r.ID, api.Candidate, 0, []int{r.ID}
	drawn(r)
}

// TestTickFollower: P18.2: who is no leader counts, till the timeout; then it asks first.
func TestTickFollower(t *testing.T) {
	for role := api.Follower; role < api.Leader; role++ {
		r := state(role)
		r.Leader, r.Vote = 3, 3
		for _, c := range []struct{ elapsed, timeout int }{{0, 15}, {4, 15}, {13, 15}, {0, 2}, {5, greatest}} {
			r.Elapsed, r.Timeout = c.elapsed, c.timeout
			ticks(t, fmt.Sprint("ahead of timeout ", c), r, func(r *api.Raft) { r.Elapsed++ })
		}
		for _, c := range []struct{ elapsed, timeout int }{{14, 15}, {15, 15}, {16, 15}, {0, 1}, {0, 0}, {greatest, 15}, {greatest - 1, greatest}, {greatest, greatest}} {
			r.Elapsed, r.Timeout = c.elapsed, c.timeout
			what := fmt.Sprint("role ", role, " at timeout ", c)
			x := ticks(t, what, r, func(r *api.Raft) {
				fallen(r, 5)
				drawn(r)
				r.Role, r.Votes = api.PreCandidate, []int{1}
			}, asks(api.AskPre, 6, 6, 5, 2, 3)...)
			if x.Vote != 3 || x.Term != 5 {
				t.Errorf("%s: asking first changes the term or the vote", what)
			}
		}
	}
	empty := with(state(api.Follower), func(r *api.Raft) { r.Log, r.Elapsed = logOf(6, 3), 14; r.Commit = 6 })
	ticks(t, "the base is last", empty, func(r *api.Raft) {
		drawn(r)
		r.Role, r.Votes = api.PreCandidate, []int{1}
	}, asks(api.AskPre, 6, 6, 3, 2, 3)...)
	last := with(empty, func(r *api.Raft) { r.ID = 3 })
	ticks(t, "of the last one of them", last, func(r *api.Raft) {
		drawn(r)
		r.Role, r.Votes = api.PreCandidate, []int{3}
	}, api.Rpc{Kind: api.AskPre, From: 3, To: 1, Term: 6, Index: 6, LogTerm: 3}, api.Rpc{Kind: api.AskPre, From: 3, To: 2, Term: 6, Index: 6, LogTerm: 3})
	others := with(state(api.Follower), func(r *api.Raft) { r.Votes, r.Elapsed = []int{2, 3}, 14 })
	ticks(t, "votes of others are not kept", others, func(r *api.Raft) {
		drawn(r)
		r.Role, r.Votes = api.PreCandidate, []int{1}
	}, asks(api.AskPre, 6, 6, 5, 2, 3)...)
}

// TestTickNoMember: P18.2: who is none of the members only counts.
func TestTickNoMember(t *testing.T) {
	for role := api.Follower; role < api.Leader; role++ {
		for _, members := range [][]int{{2}, {2, 3}, {2, 3, 4, 5, 6, 7}} {
			r := among(state(role), members...)
			r.Elapsed, r.Timeout = 98, 15
			ticks(t, "of no member", r, func(r *api.Raft) { r.Elapsed = 99 })
			r.Elapsed = greatest
			ticks(t, "of no member, at the end", r, nil)
		}
	}
	r, e := New(4, 1, nil)
	want(t, "New", e, 0)
	for range 50 {
		r = ticks(t, "without members", r, func(r *api.Raft) { r.Elapsed++ })
	}
	out := with(state(api.Follower), func(r *api.Raft) { r.Log.Entries[3] = conf(6, 5, 2, 3); r.Members = []int{2, 3}; r.Elapsed = 20 })
	ticks(t, "put out by an entry", out, func(r *api.Raft) { r.Elapsed++ })
	in := with(among(state(api.Follower), 2, 3), func(r *api.Raft) { r.Log.Entries[3] = conf(6, 5, 1, 2); r.Members = []int{1, 2}; r.Elapsed = 20 })
	ticks(t, "taken in by an entry", in, func(r *api.Raft) {
		drawn(r)
		r.Role, r.Votes = api.PreCandidate, []int{1}
	}, asks(api.AskPre, 6, 6, 5, 2)...)
}

// TestTickAlone: P18.2: the only member leads at once.
func TestTickAlone(t *testing.T) {
	for role := api.Follower; role < api.Leader; role++ {
		r := among(state(role), 1)
		r.Elapsed, r.Leader = 14, 2
		ticks(t, "alone", r, func(r *api.Raft) {
			fallen(r, 5)
			drawn(r)
			stood(r)
			r.Role, r.Leader, r.Votes = api.Leader, 1, nil
			r.Log.Entries = append(r.Log.Entries, api.Entry{Index: 7, Term: 6})
			r.Next, r.Match, r.Heard, r.Commit = []int{7}, []int{7}, []int{0}, 7
		})
		r.Log = logOf(2, 1, slices.Repeat([]int{4}, 512)...)
		ticks(t, "alone, with a full log", r, func(r *api.Raft) {
			fallen(r, 5)
			drawn(r)
			stood(r)
			fallen(r, 6)
		})
		r.Log = logOf(2, 1, slices.Repeat([]int{4}, 511)...)
		r = ticks(t, "alone, with room for one", r, func(r *api.Raft) {
			fallen(r, 5)
			drawn(r)
			stood(r)
			r.Role, r.Leader, r.Votes = api.Leader, 1, nil
			r.Log.Entries = append(r.Log.Entries, api.Entry{Index: 514, Term: 6})
			r.Next, r.Match, r.Heard, r.Commit = []int{514}, []int{514}, []int{0}, 514
		})
		for range 200 {
			if x, out, e := Tick(r); e != nil || x.Role != api.Leader || len(out) > 0 {
				t.Fatalf("alone: %s, %v", show(x), e)
			}
		}
	}
}

// TestTickLastTerm: P18.2: nobody asks for votes in the last term.
func TestTickLastTerm(t *testing.T) {
	for role := api.Follower; role < api.Leader; role++ {
		for _, members := range [][]int{{1}, {1, 2, 3}} {
			r := among(state(role), members...)
			r.Term, r.Leader, r.Vote = greatest, 2, 3
			r.Elapsed = 13
			ticks(t, "ahead of timeout in the last term", r, func(r *api.Raft) { r.Elapsed = 14 })
			for _, elapsed := range []int{14, 15, greatest} {
				r.Elapsed = elapsed
				ticks(t, "in the last term", r, drawn)
			}
			out := among(r, 2, 3)
			out.Elapsed = 99
			ticks(t, "of no member in the last term", out, func(r *api.Raft) { r.Elapsed = 100 })
		}
		r := state(role)
		r.Term, r.Elapsed = greatest-1, 14
		ticks(t, "in the last term but one", r, func(r *api.Raft) {
			fallen(r, greatest-1)
			drawn(r)
			r.Role, r.Votes = api.PreCandidate, []int{1}
		}, asks(api.AskPre, greatest, 6, 5, 2, 3)...)
	}
	alone := among(state(api.Follower), 1)
	alone.Term, alone.Elapsed = greatest-1, 14
	if x, _, e := Tick(alone); e != nil || x.Role != api.Leader || x.Term != greatest || x.Commit != 7 {
		t.Errorf("alone, in the last term but one: %s, %v", show(x), e)
	}
}

// TestTickLeader: P18.2: rounds of a leader, one each Beat ticks.
func TestTickLeader(t *testing.T) {
	r := state(api.Leader)
	counted := func(r *api.Raft) { r.Heard = []int{0, 2, 3} }
	r.Elapsed = 0
	ticks(t, "below Beat", r, func(r *api.Raft) { counted(r); r.Elapsed = 1 })
	for _, elapsed := range []int{1, 2, 99, greatest} {
		r.Elapsed = elapsed
		ticks(t, "at Beat", r, func(r *api.Raft) { counted(r); r.Elapsed = 0 },
			api.Rpc{Kind: api.AskAppend, From: 1, To: 2, Term: 5, Index: 6, LogTerm: 5, Commit: 3},
			api.Rpc{Kind: api.AskAppend, From: 1, To: 3, Term: 5, Index: 4, LogTerm: 2, Commit: 3, Entries: r.Log.Entries[2:]})
	}
	for _, r.Timeout = range []int{0, 1} {
		r.Elapsed = 0
		ticks(t, "a leader has no timeout", r, func(r *api.Raft) { counted(r); r.Elapsed = 1 })
	}
	r.Heard[0], r.Elapsed = 7, 0
	ticks(t, "it hears itself", r, func(r *api.Raft) { counted(r); r.Elapsed = 1 })
}

// TestTickSend: P18.2: what a round sends by what is next.
func TestTickSend(t *testing.T) {
	r := among(state(api.Leader), 1, 2, 3, 4, 5, 6, 7)
	r.SnapMembers = []int{1, 2}
	r.Log.Entries[3] = conf(6, 5, 1, 2, 3, 4, 5, 6, 7)
	es := r.Log.Entries
	r.Elapsed, r.Commit = 1, 5
	r.Next = []int{1, 1, 2, 3, 4, 6, 7}
	snapshot := api.Rpc{Kind: api.AskSnap, From: 1, To: 2, Term: 5, Index: 2, LogTerm: 1, Members: []int{1, 2}, Data: "s"}
	other := snapshot
	other.To = 3
	after := func(r *api.Raft) { r.Elapsed = 0; r.Heard = []int{0, 1, 1, 1, 1, 1, 1} }
	ticks(t, "by what is next", r, after, snapshot, other,
		api.Rpc{Kind: api.AskAppend, From: 1, To: 4, Term: 5, Index: 2, LogTerm: 1, Commit: 5, Entries: es},
		api.Rpc{Kind: api.AskAppend, From: 1, To: 5, Term: 5, Index: 3, LogTerm: 2, Commit: 5, Entries: es[1:]},
		api.Rpc{Kind: api.AskAppend, From: 1, To: 6, Term: 5, Index: 5, LogTerm: 4, Commit: 5, Entries: es[3:]},
		api.Rpc{Kind: api.AskAppend, From: 1, To: 7, Term: 5, Index: 6, LogTerm: 5, Commit: 5})
	without := with(r, func(r *api.Raft) { r.Snap = ""; r.Next = []int{7, 2, 7, 7, 7, 7, 7} })
	snapshot.Data = ""
	_, out, e := Tick(without)
	if e != nil || len(out) != 6 || showAll(out[:1]) != showAll([]api.Rpc{snapshot}) {
		t.Errorf("a snapshot without bytes: %s, %v", showAll(out), e)
	}
	for _, next := range []int{1, 2, 3, 4, 5, 40} {
		terms := slices.Repeat([]int{3}, 40)
		long := among(with(r, func(r *api.Raft) { r.Log, r.Commit = logOf(0, 0, terms...), 0; r.Snap = "" }), 1, 2)
		long.Next, long.Match = []int{41, next}, []int{40, 0}
		many := min(16, 41-next)
		term := 3
		if next == 1 {
			term = 0
		}
		ticks(t, fmt.Sprint("at most MaxSend from ", next), long, func(r *api.Raft) { r.Elapsed = 0; r.Heard = []int{0, 1} },
			api.Rpc{Kind: api.AskAppend, From: 1, To: 2, Term: 5, Index: next - 1, LogTerm: term, Entries: long.Log.Entries[next-1 : next-1+many]})
	}
	for _, left := range []int{15, 16, 17} {
		long := among(with(r, func(r *api.Raft) { r.Log = logOf(2, 1, slices.Repeat([]int{3}, 20)...) }), 1, 2)
		long.Next[1] = 23 - left
		_, out, e := Tick(long)
		if e != nil || len(out) != 1 || len(out[0].Entries) != min(left, 16) {
			t.Errorf("%d entries left: %s, %v", left, showAll(out), e)
		}
	}
}

// TestTickQuorum: P18.2: a leader that has not heard of more than half of the members for 2 Wait ticks leads no more.
func TestTickQuorum(t *testing.T) {
	for _, c := range []struct {
		heard []int // ahead of the tick; of 1 it is its own
		id    int
		still bool
	}{
		{[]int{0}, 1, true}, {[]int{99}, 1, true},
		{[]int{0, 18}, 1, true}, {[]int{0, 19}, 1, false}, {[]int{0, 20}, 1, false},
		{[]int{0, 18, 99}, 1, true}, {[]int{0, 99, 18}, 1, true}, {[]int{0, 19, 19}, 1, false}, {[]int{0, 18, 18}, 1, true}, {[]int{99, 18, 19}, 1, true},
		{[]int{0, 18, 19, 19}, 1, false}, {[]int{0, 18, 19, 18}, 1, true},
		{[]int{0, 18, 18, 19, 19}, 1, true}, {[]int{0, 18, 19, 19, 19}, 1, false},
		{[]int{18, 18, 18, 19, 19, 19}, 1, false}, {[]int{18, 18, 18, 18, 19, 19}, 1, true},
		{[]int{0, greatest, greatest, greatest, 0, 0, 0}, 1, true}, {[]int{0, greatest, greatest, greatest, greatest, 0, 0}, 1, false},
		// It is none of them, or not the first one.
		{[]int{18, 18}, 5, true}, {[]int{18, 19}, 5, false}, {[]int{18, 0}, 2, true}, {[]int{19, 0}, 2, false}, {[]int{19, 99}, 2, false}, {[]int{18, 99}, 2, true},
		{nil, 1, false},
	} {
		for _, elapsed := range []int{0, 1} {
			r := among(state(api.Leader), []int{1, 2, 3, 4, 5, 6, 7}[:len(c.heard)]...)
			if len(c.heard) == 0 {
				r.Log, r.Commit, r.Snap = logOf(0, 0), 0, ""
			}
			r.ID, r.Heard, r.Elapsed, r.Leader = c.id, slices.Clone(c.heard), elapsed, c.id
			was := clone(r)
			x, out, e := Tick(r)
			want(t, "Tick", e, 0)
			w := with(was, func(r *api.Raft) {
				r.Elapsed = (elapsed + 1) % 2
				for k := range r.Heard {
					r.Heard[k] = min(greatest, r.Heard[k]+1)
					if r.Members[k] == r.ID {
						r.Heard[k] = 0
					}
				}
				if !c.still {
					fallen(r, 5)
					drawn(r)
				}
			})
			sent := 0
			if c.still && elapsed == 1 {
				sent = len(c.heard)
				if slices.Contains(r.Members, r.ID) {
					sent--
				}
			}
			if show(x) != show(w) || len(out) != sent {
				t.Errorf("heard %v of %d, elapsed %d: told\n %s, want\n %s; %d messages, want %d", c.heard, c.id, elapsed, show(x), show(w), len(out), sent)
			}
			mayBe(t, "Tick", x, out)
		}
	}
}

// TestTickEnds: P18.2: ticks are not counted beyond the greatest number.
func TestTickEnds(t *testing.T) {
	r := state(api.Leader)
	r.Heard = []int{greatest, greatest, 0}
	r.Elapsed = greatest
	x, _, e := Tick(r)
	if e != nil || fmt.Sprint(x.Heard) != fmt.Sprint([]int{0, greatest, 1}) || x.Elapsed != 0 {
		t.Errorf("%s, %v", show(x), e)
	}
	r.Heard = []int{0, greatest - 1, 0}
	x, _, e = Tick(r)
	if e != nil || x.Heard[1] != greatest {
		t.Errorf("%s, %v", show(x), e)
	}
	out := among(state(api.Follower), 2)
	for _, n := range []int{greatest - 1, greatest} {
		out.Elapsed = n
		ticks(t, "at the end", out, func(r *api.Raft) { r.Elapsed = greatest })
	}
}
