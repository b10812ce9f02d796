package raft

import (
	"fmt"
	"testing"

	"dovecote/api"
)

// piece is a list that was handed in or told.
type piece struct {
	what  string
	show  func() string
	spoil func()
}

func pieceOf[E any](what string, l []E, bad E) piece {
	return piece{what, func() string { return fmt.Sprint(l) }, func() {
		for i := range l[:cap(l)] {
			l[:cap(l)][i] = bad
		}
	}}
}

// pieces are all lists of a state and of messages.
func pieces(r api.Raft, out []api.Rpc) (l []piece) {
	l = append(l, pieceOf("Log.Entries", r.Log.Entries, api.Entry{Index: -7, Data: "spoilt"}))
	for what, m := range map[string][]int{"Members": r.Members, "SnapMembers": r.SnapMembers, "Votes": r.Votes, "Next": r.Next, "Match": r.Match, "Heard": r.Heard} {
		l = append(l, pieceOf(what, m, -7))
	}
	for i, m := range out {
		l = append(l, pieceOf(fmt.Sprint("Entries ", i), m.Entries, api.Entry{Index: -8, Data: "spoilt"}), pieceOf(fmt.Sprint("Members ", i), m.Members, -8))
	}
	return append(l, pieceOf("messages", out, api.Rpc{Kind: -7}))
}

// spare is l with room behind it that is not to be touched.
func spare[E any](l []E, bad E) []E {
	m := append(append(make([]E, 0, len(l)+3), l...), bad, bad, bad)
	return m[:len(l)]
}

func spareState(r api.Raft) api.Raft {
	r.Log.Entries = spare(r.Log.Entries, api.Entry{Index: -9})
	for _, l := range []*[]int{&r.Members, &r.SnapMembers, &r.Votes, &r.Next, &r.Match, &r.Heard} {
		*l = spare(*l, -9)
	}
	return r
}

// room is all of a list, spare room too.
func room(r api.Raft, m api.Rpc) string {
	s := fmt.Sprint(r.Log.Entries[:cap(r.Log.Entries)], m.Entries[:cap(m.Entries)])
	for _, l := range [][]int{r.Members, r.SnapMembers, r.Votes, r.Next, r.Match, r.Heard, m.Members} {
		s += fmt.Sprint(l[:cap(l)])
	}
	return s
}

type called struct {
	what string
	r    api.Raft
	m    api.Rpc
	call func(r api.Raft, m api.Rpc) (api.Raft, []api.Rpc)
}

// calls are some of each kind, with what they are given.
func calls(t *testing.T) (l []called) {
	must := func(r api.Raft, out []api.Rpc, e error) (api.Raft, []api.Rpc) {
		t.Helper()
		want(t, "a call", e, 0)
		return r, out
	}
	take := func(r api.Raft, m api.Rpc) (api.Raft, []api.Rpc) { return must(Take(r, m)) }
	tick := func(r api.Raft, m api.Rpc) (api.Raft, []api.Rpc) { return must(Tick(r)) }
	for role := range 4 {
		r := state(role)
		r.Elapsed = 14
		l = append(l, called{"Tick", r, api.Rpc{}, tick})
		r.Elapsed = 0
		l = append(l, called{"a Tick more", r, api.Rpc{}, tick})
		for kind := api.AskPre; kind <= api.AskSnap; kind++ {
			for term := 4; term <= 6; term++ {
				for _, m := range someOf(kind, term) {
					l = append(l, called{fmt.Sprint("Take of ", kind, " by ", role), r, m, take})
				}
			}
		}
		l = append(l, called{"Compact", r, api.Rpc{}, func(r api.Raft, m api.Rpc) (api.Raft, []api.Rpc) {
			x, e := Compact(r, 3, "t")
			return must(x, nil, e)
		}})
	}
	lag := own()
	lag.Next = []int{7, 1, 1}
	lag.Elapsed = 3
	l = append(l, called{"Tick that sends snapshots", lag, api.Rpc{}, tick})
	lag.Next = []int{7, 3, 3}
	l = append(l, called{"Tick that sends entries", lag, api.Rpc{}, tick})
	l = append(l, called{"Take that cuts", with(state(api.Follower), func(r *api.Raft) { r.Log.Entries[3] = conf(6, 5, 1, 2); r.Members = []int{1, 2} }), api.Rpc{Kind: api.AskAppend, From: 2, To: 1, Term: 5, Index: 4, LogTerm: 2, Entries: []api.Entry{conf(5, 5, 1, 2, 3, 4)}}, take})
	l = append(l, called{"Take that cuts to the snapshot's", with(state(api.Follower), func(r *api.Raft) { r.Log.Entries[3] = conf(6, 5, 1, 2); r.Members = []int{1, 2} }), api.Rpc{Kind: api.AskAppend, From: 2, To: 1, Term: 5, Index: 4, LogTerm: 2, Entries: list(5, 5)}, take})
	for _, data := range []string{"\x01\x02\x03\x04", "\x01\x02", "\x02\x03"} {
		for kind := api.EntryData; kind <= api.EntryConf; kind++ {
			l = append(l, called{"Propose", own(), api.Rpc{}, func(r api.Raft, m api.Rpc) (api.Raft, []api.Rpc) {
				x, out, _, e := Propose(r, kind, data)
				return must(x, out, e)
			}})
		}
	}
	return l
}

// TestMemory: R2: what is handed in is neither changed nor kept; no two lists that are told share memory, spare room too.
func TestMemory(t *testing.T) {
	for _, c := range calls(t) {
		for _, spoilt := range []int{0, 1} {
			r, m := spareState(c.r), c.m
			m.Entries, m.Members = spare(m.Entries, api.Entry{Index: -9}), spare(m.Members, -9)
			was := room(r, m)
			got, out := c.call(r, m)
			if room(r, m) != was {
				t.Errorf("%s: changed what was handed in", c.what)
			}
			given, told := pieces(r, []api.Rpc{m}), pieces(got, out)
			first, second := given, told
			if spoilt == 1 {
				first, second = told, given
			}
			apart(t, c.what, first, second)
		}
	}
}

// apart spoils the ones and looks for it among the others; and what was told, one by one.
func apart(t *testing.T, what string, ones, others []piece) {
	t.Helper()
	var was []string
	for _, p := range others {
		was = append(was, p.show())
	}
	for _, p := range ones {
		p.spoil()
	}
	for i, p := range others {
		if p.show() != was[i] {
			t.Errorf("%s: %s shares memory with what was told or handed in", what, p.what)
		}
	}
	for i, p := range others {
		p.spoil()
		for k, q := range others[i+1:] {
			if q.what != "messages" && q.show() != was[i+1+k] {
				t.Errorf("%s: %s and %s share memory", what, p.what, q.what)
			}
		}
	}
}

// TestMemoryNew: R2: the members that New is given, and its two lists of them.
func TestMemoryNew(t *testing.T) {
	members := spare([]int{1, 2, 3}, -9)
	r, e := New(1, 1, members)
	want(t, "New", e, 0)
	if fmt.Sprint(members[:6]) != "[1 2 3 -9 -9 -9]" {
		t.Errorf("New changed its members: %v", members[:6])
	}
	apart(t, "New", []piece{pieceOf("members", members, -8)}, pieces(r, nil))
}

// TestAgain: R1, R2: a call asked again, with what was told in between written over, tells the same.
func TestAgain(t *testing.T) {
	for _, c := range calls(t) {
		got, out := c.call(c.r, c.m)
		was, sent := show(got), showAll(out)
		for _, p := range pieces(got, out) {
			p.spoil()
		}
		if got, out := c.call(c.r, c.m); show(got) != was || showAll(out) != sent {
			t.Errorf("%s tells %s,%s, ahead of it %s,%s", c.what, show(got), showAll(out), was, sent)
		}
	}
}
