package raft

import (
	"errors"
	"fmt"
	"math"
	"slices"
	"strings"
	"testing"

	"dovecote/api"
	"dovecote/random"
	"dovecote/rpc"
)

// Bounds as the chapters have them.
const (
	greatestBase = 1<<40 - 2048
	greatest     = 1<<40 - 1 // of terms and of ticks
	greatestSnap = api.MaxFile / 2
)

// number tells the number of an error, 0: there is none; it has no other number within it, and tells its layer.
func number(t *testing.T, what string, e error) api.Errno {
	t.Helper()
	if e == nil {
		return 0
	}
	var n api.Errno
	if !errors.As(e, &n) {
		t.Errorf("%s: error %v without a number", what, e)
	}
	for other := api.ErrForm; other <= api.ErrFull; other++ {
		if other != n && errors.Is(e, other) {
			t.Errorf("%s: error %v has %v within it, too", what, e, other)
		}
	}
	var f *api.Fault
	if !errors.As(e, &f) || f.Layer != "raft" {
		t.Errorf("%s: error %v does not tell its layer", what, e)
	}
	return n
}

func want(t *testing.T, what string, e error, n api.Errno) {
	t.Helper()
	if got := number(t, what, e); got != n {
		t.Errorf("%s: error %v, want number %d", what, e, n)
	}
}

// short is s, or its length and its ends.
func short(s string) string {
	if len(s) > 40 {
		return fmt.Sprintf("%q..%q (%d)", s[:9], s[len(s)-9:], len(s))
	}
	return fmt.Sprintf("%q", s)
}

// showEntries tells all of a list of entries.
func showEntries(l []api.Entry) string {
	var s strings.Builder
	for _, e := range l {
		fmt.Fprintf(&s, " %d.%d.%d.%s", e.Index, e.Term, e.Kind, short(e.Data))
	}
	return "[" + s.String() + " ]"
}

// show tells all of a state; a nil list and an empty one are one.
func show(r api.Raft) string {
	return fmt.Sprintf("ID %d Role %d Term %d Vote %d Leader %d Log %d.%d %s Members %v Snap %s SnapMembers %v Commit %d Elapsed %d Timeout %d Seed %d Votes %v Next %v Match %v Heard %v",
		r.ID, r.Role, r.Term, r.Vote, r.Leader, r.Log.Base, r.Log.BaseTerm, showEntries(r.Log.Entries), r.Members, short(r.Snap), r.SnapMembers, r.Commit, r.Elapsed, r.Timeout, r.Seed, r.Votes, r.Next, r.Match, r.Heard)
}

// showAll tells all of some messages.
func showAll(l []api.Rpc) string {
	var s strings.Builder
	for _, m := range l {
		fmt.Fprintf(&s, "\n  Kind %d From %d To %d Term %d Index %d LogTerm %d Commit %d Ok %v Entries %s Members %v Data %s", m.Kind, m.From, m.To, m.Term, m.Index, m.LogTerm, m.Commit, m.Ok, showEntries(m.Entries), m.Members, short(m.Data))
	}
	return s.String()
}

// clone is r in memory of its own, with the spare room that it has.
func clone(r api.Raft) api.Raft {
	r.Log.Entries = roomy(r.Log.Entries)
	r.Members, r.SnapMembers, r.Votes = roomy(r.Members), roomy(r.SnapMembers), roomy(r.Votes)
	r.Next, r.Match, r.Heard = roomy(r.Next), roomy(r.Match), roomy(r.Heard)
	return r
}

// roomy is l in memory of its own, with spare room that is as l's is.
func roomy[E any](l []E) []E {
	m := make([]E, cap(l))
	copy(m, l[:cap(l)])
	return m[:len(l)]
}

// list are entries from that index on, of these terms; each has data of its own.
func list(from int, terms ...int) (l []api.Entry) {
	for i, term := range terms {
		l = append(l, api.Entry{Index: from + i, Term: term, Kind: api.EntryData, Data: fmt.Sprint(from + i)})
	}
	return l
}

func logOf(base, term int, terms ...int) api.Log {
	return api.Log{Base: base, BaseTerm: term, Entries: list(base+1, terms...)}
}

// conf is an entry of members.
func conf(index, term int, members ...int) api.Entry {
	return api.Entry{Index: index, Term: term, Kind: api.EntryConf, Data: bytesOf(members)}
}

func bytesOf(members []int) string {
	var b []byte
	for _, k := range members {
		b = append(b, byte(k))
	}
	return string(b)
}

// state is one of node 1 of three, in that role, at Term 5, with entries 3 to 6 of Terms 2, 2, 4, 5, of which the first one is settled.
func state(role int) api.Raft {
	r := api.Raft{ID: 1, Role: role, Term: 5, Log: logOf(2, 1, 2, 2, 4, 5), Members: []int{1, 2, 3}, SnapMembers: []int{1, 2, 3}, Snap: "s", Commit: 3, Elapsed: 4, Timeout: 15, Seed: 9}
	switch role {
	case api.PreCandidate:
		r.Votes = []int{1}
	case api.Candidate:
		r.Vote, r.Votes = 1, []int{1}
	case api.Leader:
		r.Vote, r.Leader = 1, 1
		r.Next, r.Match, r.Heard = []int{7, 7, 5}, []int{6, 4, 0}, []int{0, 1, 2}
	}
	return r
}

// with is r changed.
func with(r api.Raft, change func(r *api.Raft)) api.Raft {
	r = clone(r)
	if change != nil {
		change(&r)
	}
	return r
}

// among makes r one of these members, by its snapshot; of a leader all have all.
func among(r api.Raft, members ...int) api.Raft {
	r.Members, r.SnapMembers = members, slices.Clone(members)
	if r.Role == api.Leader {
		last := r.Log.Base + len(r.Log.Entries)
		r.Next, r.Match, r.Heard = slices.Repeat([]int{last + 1}, len(members)), slices.Repeat([]int{last}, len(members)), make([]int, len(members))
	}
	return r
}

// drawn draws, by the chapter's words.
func drawn(r *api.Raft) {
	r.Seed = random.Next(r.Seed)
	r.Timeout = 10 + int(r.Seed%10)
	r.Elapsed = 0
}

// fallen falls back to that term, by the chapter's words.
func fallen(r *api.Raft, term int) {
	r.Role, r.Leader, r.Votes, r.Next, r.Match, r.Heard = api.Follower, 0, nil, nil, nil, nil
	if term > r.Term {
		r.Term, r.Vote = term, 0
	}
}

// told holds what a call told of r against what it changes and hands out; what was handed in is as it was.
func told(t *testing.T, what string, r, was, got api.Raft, out []api.Rpc, e error, after func(r *api.Raft), wanted []api.Rpc) {
	t.Helper()
	want(t, what, e, 0)
	w := with(was, after)
	if show(got) != show(w) {
		t.Errorf("%s: told\n %s, want\n %s", what, show(got), show(w))
	}
	if showAll(out) != showAll(wanted) {
		t.Errorf("%s: hands out%s\nwant%s", what, showAll(out), showAll(wanted))
	}
	if show(r) != show(was) {
		t.Errorf("%s: changed what was handed in: %s, was %s", what, show(r), show(was))
	}
	mayBe(t, what, got, out)
}

// mayBe tells whether a state and messages that are told may be.
func mayBe(t *testing.T, what string, r api.Raft, out []api.Rpc) {
	t.Helper()
	if e := Check(r); e != nil {
		t.Errorf("%s: told what may not be: %v: %s", what, e, show(r))
	}
	for _, m := range out {
		if e := rpc.Check(m); e != nil {
			t.Errorf("%s: hands out what may not be: %v:%s", what, e, showAll([]api.Rpc{m}))
		}
	}
}

func ticks(t *testing.T, what string, r api.Raft, after func(r *api.Raft), wanted ...api.Rpc) api.Raft {
	t.Helper()
	was := clone(r)
	got, out, e := Tick(r)
	told(t, "Tick: "+what, r, was, got, out, e, after, wanted)
	return got
}

// takes hands m to r; without a sender it is from node 2, without one to take it to r.
func takes(t *testing.T, what string, r api.Raft, m api.Rpc, after func(r *api.Raft), wanted ...api.Rpc) api.Raft {
	t.Helper()
	if m.From == 0 {
		m.From = 2
	}
	if m.To == 0 {
		m.To = r.ID
	}
	was, sent := clone(r), showAll([]api.Rpc{m})
	got, out, e := Take(r, m)
	what = fmt.Sprintf("Take: %s:%s: ", what, sent)
	told(t, what, r, was, got, out, e, after, wanted)
	if sent != showAll([]api.Rpc{m}) {
		t.Errorf("%s: changed the message", what)
	}
	return got
}

func proposes(t *testing.T, what string, r api.Raft, kind int, data string, index int, after func(r *api.Raft), wanted ...api.Rpc) api.Raft {
	t.Helper()
	was := clone(r)
	got, out, i, e := Propose(r, kind, data)
	told(t, "Propose: "+what, r, was, got, out, e, after, wanted)
	if i != index {
		t.Errorf("Propose: %s: index %d, want %d", what, i, index)
	}
	return got
}

func compacts(t *testing.T, what string, r api.Raft, i int, snap string, after func(r *api.Raft)) api.Raft {
	t.Helper()
	was := clone(r)
	got, e := Compact(r, i, snap)
	told(t, "Compact: "+what, r, was, got, nil, e, after, nil)
	return got
}

// refused tells whether a call's error has that number, with nothing beside it.
func refused(t *testing.T, what string, got api.Raft, out []api.Rpc, index int, e error, n api.Errno) {
	t.Helper()
	want(t, what, e, n)
	if show(got) != show(api.Raft{}) || len(out) > 0 || index != 0 {
		t.Errorf("%s: beside an error: %s,%s, %d", what, show(got), showAll(out), index)
	}
}

func refusesTake(t *testing.T, what string, r api.Raft, m api.Rpc) {
	t.Helper()
	got, out, e := Take(r, m)
	refused(t, "Take: "+what, got, out, 0, e, api.ErrForm)
}

func refusesPropose(t *testing.T, what string, r api.Raft, kind int, data string, n api.Errno) {
	t.Helper()
	got, out, i, e := Propose(r, kind, data)
	refused(t, "Propose: "+what, got, out, i, e, n)
}

func refusesCompact(t *testing.T, what string, r api.Raft, i int, snap string) {
	t.Helper()
	got, e := Compact(r, i, snap)
	refused(t, "Compact: "+what, got, nil, 0, e, api.ErrForm)
}

// TestExample: P18.2: the chapter's example: a node alone leads behind Timeout ticks, and what it begins with is settled.
func TestExample(t *testing.T) {
	r, e := New(1, 1, []int{1})
	want(t, "New", e, 0)
	for range r.Timeout - 1 {
		r = ticks(t, "ahead of its end", r, func(r *api.Raft) { r.Elapsed++ })
	}
	r = ticks(t, "at its end", r, func(r *api.Raft) {
		r.Role, r.Leader, r.Term, r.Vote, r.Commit = api.Leader, 1, 1, 1, 1
		drawn(r) // to ask
		drawn(r) // to stand
		r.Log.Entries = []api.Entry{{Index: 1, Term: 1}}
		r.Next, r.Match, r.Heard = []int{1}, []int{1}, []int{0}
	})
	if r.Role != api.Leader || r.Commit != 1 {
		t.Errorf("%s", show(r))
	}
}

// goodStates are states that may be, at the edges, too.
func goodStates() map[string]api.Raft {
	all := []int{1, 2, 3, 4, 5, 6, 7}
	l := map[string]api.Raft{
		"least":                      {ID: 1},
		"without members":            {ID: 7, Role: api.Candidate},
		"a leader of nobody":         {ID: 7, Role: api.Leader},
		"of a term that comes later": {ID: 1, Log: logOf(0, 3, 5, 9)},
		"a snapshot's members alone": {ID: 1, SnapMembers: []int{2}, Members: []int{2}},
		"greatest": {ID: 7, Role: api.Leader, Term: greatest, Vote: 7, Leader: 7, Log: logOf(greatestBase, greatest, slices.Repeat([]int{greatest}, api.MaxEntries)...), Members: all, SnapMembers: all, Snap: strings.Repeat("s", greatestSnap), Commit: greatestBase + api.MaxEntries,
			Elapsed: greatest, Timeout: greatest, Seed: math.MaxUint64, Votes: all, Next: slices.Repeat([]int{greatestBase + api.MaxEntries + 1}, 7), Match: slices.Repeat([]int{greatestBase + api.MaxEntries}, 7), Heard: slices.Repeat([]int{greatest}, 7)},
		"members by their entry": {ID: 1, SnapMembers: []int{1, 2}, Members: []int{4, 5}, Log: api.Log{Base: 3, Entries: []api.Entry{conf(4, 1, 1, 3), conf(5, 1, 4, 5), {Index: 6, Term: 1}}}, Commit: 3},
	}
	for role := range 4 {
		l[fmt.Sprint("role ", role)] = state(role)
		l[fmt.Sprint("role ", role, " with votes")] = with(state(role), func(r *api.Raft) { r.Votes = []int{2, 7} })
	}
	return l
}

// TestCheckGood: P18.1: states that may be; all calls take them.
func TestCheckGood(t *testing.T) {
	for what, r := range goodStates() {
		was := clone(r)
		want(t, what, Check(r), 0)
		got, out, e := Tick(r)
		want(t, "Tick: "+what, e, 0)
		mayBe(t, "Tick: "+what, got, out)
		got, out, e = Take(r, api.Rpc{Kind: api.TellVote, From: r.ID%7 + 1, To: r.ID, Term: r.Term})
		want(t, "Take: "+what, e, 0)
		mayBe(t, "Take: "+what, got, out)
		if show(r) != show(was) {
			t.Errorf("%s: changed what was handed in", what)
		}
	}
}

// badChanges each make a leader's state one that may not be.
func badChanges() map[string]func(r *api.Raft) {
	l := map[string]func(r *api.Raft){
		"role below":                       func(r *api.Raft) { r.Role = -1; r.Next, r.Match, r.Heard = nil, nil, nil },
		"role above":                       func(r *api.Raft) { r.Role = 4; r.Next, r.Match, r.Heard = nil, nil, nil },
		"role above, as a leader":          func(r *api.Raft) { r.Role = 4 },
		"log's base":                       func(r *api.Raft) { r.Log.Base = -1 },
		"log's base above":                 func(r *api.Raft) { r.Log = logOf(greatestBase+1, 1); r.Commit = greatestBase + 1 },
		"log's base's term":                func(r *api.Raft) { r.Log.BaseTerm = 3 },
		"log's entries":                    func(r *api.Raft) { r.Log.Entries[1].Index++ },
		"log's kinds":                      func(r *api.Raft) { r.Log.Entries[1].Kind = 3 },
		"log up to the last index":         func(r *api.Raft) { r.Log = logOf(1<<40-4, 1, 2, 2, 4, 5); r.Commit = 1<<40 - 4 },
		"log with too many":                func(r *api.Raft) { r.Log = logOf(2, 1, slices.Repeat([]int{1}, 513)...) },
		"no members at a snapshot":         func(r *api.Raft) { r.SnapMembers = nil; r.Log.Entries[3] = conf(6, 5, 1, 2, 3) },
		"no members at a snapshot of one":  func(r *api.Raft) { *r = api.Raft{ID: 1, Log: logOf(1, 1), Commit: 1} },
		"snapshot's members fall":          func(r *api.Raft) { r.SnapMembers = []int{1, 3, 2}; r.Members = r.SnapMembers },
		"snapshot's members fall, in vain": func(r *api.Raft) { r.SnapMembers = []int{3, 2}; r.Log.Entries[3] = conf(6, 5, 1, 2, 3) },
		"snapshot's members are 0":         func(r *api.Raft) { r.SnapMembers = []int{0, 1, 2}; r.Members = r.SnapMembers },
		"snapshot's members are 8":         func(r *api.Raft) { r.SnapMembers = []int{1, 2, 8}; r.Members = r.SnapMembers },
		"snapshot too long":                func(r *api.Raft) { r.Snap = strings.Repeat("s", greatestSnap+1) },
		"snapshot of nothing":              func(r *api.Raft) { r.Log = logOf(0, 0, 2, 2, 4, 5, 5, 5) },
		"members are others":               func(r *api.Raft) { r.Members = []int{1, 2, 4} },
		"members are fewer": func(r *api.Raft) {
			r.Members = []int{1, 2}
			r.Next, r.Match, r.Heard = r.Next[:2], r.Match[:2], r.Heard[:2]
		},
		"members are none":                 func(r *api.Raft) { r.Members, r.Next, r.Match, r.Heard = nil, nil, nil, nil },
		"members are not the last entry's": func(r *api.Raft) { r.Log.Entries[2] = conf(5, 4, 1, 2, 4) },
		"members are an earlier entry's":   func(r *api.Raft) { r.Log.Entries[0], r.Log.Entries[3] = conf(3, 2, 1, 2, 3), conf(6, 5, 1, 2) },
		"an entry's members fall":          func(r *api.Raft) { r.Log.Entries[0], r.Log.Entries[3] = conf(3, 2, 2, 1), conf(6, 5, 1, 2, 3) },
		"an entry's members are 8":         func(r *api.Raft) { r.Log.Entries[0], r.Log.Entries[3] = conf(3, 2, 8), conf(6, 5, 1, 2, 3) },
		"an entry's members are none":      func(r *api.Raft) { r.Log.Entries[0], r.Log.Entries[3] = conf(3, 2), conf(6, 5, 1, 2, 3) },
		"the last entry's members are none": func(r *api.Raft) {
			r.Log.Entries[3] = conf(6, 5)
			r.Members, r.Next, r.Match, r.Heard = nil, nil, nil, nil
		},
		"commit below base": func(r *api.Raft) { r.Commit = 1 },
		"commit above":      func(r *api.Raft) { r.Commit = 7 },
		"votes that fall":   func(r *api.Raft) { r.Votes = []int{2, 1} },
		"votes twice":       func(r *api.Raft) { r.Votes = []int{2, 2} },
		"vote 0":            func(r *api.Raft) { r.Votes = []int{0} },
		"vote 8":            func(r *api.Raft) { r.Votes = []int{1, 8} },
	}
	for what, at := range map[string]struct {
		field       func(r *api.Raft) *int
		least, most int
	}{
		"ID":      {func(r *api.Raft) *int { return &r.ID }, 1, 7},
		"Term":    {func(r *api.Raft) *int { return &r.Term }, 0, greatest},
		"Vote":    {func(r *api.Raft) *int { return &r.Vote }, 0, 7},
		"Leader":  {func(r *api.Raft) *int { return &r.Leader }, 0, 7},
		"Elapsed": {func(r *api.Raft) *int { return &r.Elapsed }, 0, greatest},
		"Timeout": {func(r *api.Raft) *int { return &r.Timeout }, 0, greatest},
	} {
		for _, n := range []int{at.least - 1, math.MinInt, at.most + 1, math.MaxInt} {
			l[fmt.Sprint(what, " ", n)] = func(r *api.Raft) { *at.field(r) = n }
		}
	}
	for what, at := range map[string]struct {
		field       func(r *api.Raft) *[]int
		least, most int
	}{
		"Next":  {func(r *api.Raft) *[]int { return &r.Next }, 1, 7},
		"Match": {func(r *api.Raft) *[]int { return &r.Match }, 0, 6},
		"Heard": {func(r *api.Raft) *[]int { return &r.Heard }, 0, greatest},
	} {
		l[what+" too few"] = func(r *api.Raft) { *at.field(r) = (*at.field(r))[:2] }
		l[what+" none"] = func(r *api.Raft) { *at.field(r) = nil }
		l[what+" too many"] = func(r *api.Raft) { *at.field(r) = []int{1, 1, 1, 1} }
		for _, role := range []int{api.Follower, api.PreCandidate, api.Candidate} {
			l[fmt.Sprint(what, " of ", role)] = func(r *api.Raft) { *r = state(role); *at.field(r) = []int{1, 1, 1} }
			l[fmt.Sprint(what, " one of ", role)] = func(r *api.Raft) { *r = state(role); *at.field(r) = []int{1} }
		}
		for k := range 3 {
			for _, n := range []int{at.least - 1, math.MinInt, at.most + 1, math.MaxInt} {
				l[fmt.Sprint(what, " ", k, " ", n)] = func(r *api.Raft) { (*at.field(r))[k] = n }
			}
		}
	}
	return l
}

// TestCheckBad: P18.1: what may not be is refused by each call that takes a state, ahead of all else.
func TestCheckBad(t *testing.T) {
	for what, change := range badChanges() {
		r := with(state(api.Leader), change)
		want(t, what, Check(r), api.ErrForm)
		got, out, e := Tick(r)
		refused(t, "Tick: "+what, got, out, 0, e, api.ErrForm)
		refusesTake(t, what, r, api.Rpc{Kind: api.TellVote, From: 2, To: 1, Term: 5})
		refusesTake(t, what, r, api.Rpc{})
		refusesPropose(t, what, r, api.EntryData, "", api.ErrForm)
		refusesPropose(t, what, r, api.EntryNone, "", api.ErrForm)
		refusesCompact(t, what, r, 3, "")
		refusesCompact(t, what, r, -1, "")
	}
	bad := with(state(api.Follower), func(r *api.Raft) { r.Vote = 8 })
	refusesPropose(t, "of no leader", bad, api.EntryData, "", api.ErrForm)
	full := with(among(state(api.Leader), 1), func(r *api.Raft) {
		*r = among(with(*r, func(r *api.Raft) { r.Log = logOf(2, 1, slices.Repeat([]int{5}, 512)...) }), 1)
		r.Vote = 8
	})
	refusesPropose(t, "full", full, api.EntryData, "", api.ErrForm)
	pending := with(state(api.Leader), func(r *api.Raft) { r.Log.Entries[3] = conf(6, 5, 1, 2, 3); r.Vote = 8 })
	refusesPropose(t, "a change in between", pending, api.EntryConf, "\x01\x02", api.ErrForm)
}

// TestNew: P18.1: each id, some seeds and members.
func TestNew(t *testing.T) {
	for id := 1; id <= 7; id++ {
		for _, seed := range []uint64{0, 1, 9, 1 << 63, math.MaxUint64} {
			for _, members := range [][]int{nil, {}, {1}, {2, 3}, {1, 2, 3, 4, 5, 6, 7}} {
				r, e := New(id, seed, members)
				next := random.Next(seed)
				what := fmt.Sprint("New ", id, seed, members)
				told(t, what, r, r, r, nil, e, func(r *api.Raft) {
					*r = api.Raft{ID: id, Seed: next, Timeout: 10 + int(next%10), Members: members, SnapMembers: members}
				}, nil)
				if r.Timeout < 10 || r.Timeout > 19 {
					t.Errorf("%s: Timeout %d", what, r.Timeout)
				}
			}
		}
	}
	for i, c := range []struct {
		id      int
		members []int
	}{{0, nil}, {-1, nil}, {8, nil}, {math.MinInt, []int{1}}, {math.MaxInt, []int{1}}, {1, []int{2, 1}}, {1, []int{1, 1}}, {1, []int{0}}, {1, []int{0, 1}}, {1, []int{8}}, {1, []int{-1, 1}}, {1, []int{1, 2, 3, 4, 5, 6, 7, 8}}} {
		r, e := New(c.id, 1, c.members)
		refused(t, fmt.Sprint("New ", i), r, nil, 0, e, api.ErrForm)
	}
}
