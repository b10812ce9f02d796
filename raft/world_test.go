package raft

import (
	"fmt"
	"math/rand"
	"slices"
	"testing"

	"dovecote/api"
)

// world is several nodes that hand one another messages.
type world struct {
	*testing.T
	chance  *rand.Rand
	nodes   []api.Raft
	way     []api.Rpc         // messages on their way
	leaders map[int]int       // by term
	settled map[int]api.Entry // by index
	kept    map[int]api.Raft  // what is safe of each node
	heard   map[string]int    // how often which thing happened
}

func newWorld(t *testing.T, seed int64, n int, members ...int) *world {
	w := &world{T: t, chance: rand.New(rand.NewSource(seed)), leaders: map[int]int{}, settled: map[int]api.Entry{}, kept: map[int]api.Raft{}, heard: map[string]int{}}
	for id := 1; id <= n; id++ {
		l := members
		if !slices.Contains(members, id) {
			l = nil
		}
		r, e := New(id, uint64(seed)*100+uint64(id), l)
		want(t, "New", e, 0)
		w.nodes = append(w.nodes, r)
	}
	return w
}

// into takes what a call told of a node, and holds it against what follows from all that was told ahead.
func (w *world) into(r api.Raft, out []api.Rpc, e error) {
	w.Helper()
	if e != nil {
		w.Fatal(e)
	}
	mayBe(w.T, "a world", r, out)
	was := w.nodes[r.ID-1]
	if r.Term < was.Term || r.Term == was.Term && was.Vote != 0 && r.Vote != was.Vote || r.Commit < was.Commit {
		w.Fatalf("it goes back: %s, was %s", show(r), show(was))
	}
	if r.Role == api.Leader {
		if id := w.leaders[r.Term]; id != 0 && id != r.ID {
			w.Fatalf("two leaders of term %d: %d and %d", r.Term, id, r.ID)
		}
		if w.leaders[r.Term] == 0 {
			w.hasSettled(r)
			w.heard["leads"]++
		}
		w.leaders[r.Term] = r.ID
	}
	for _, one := range r.Log.Entries {
		if one.Index > r.Commit {
			break
		}
		if other, there := w.settled[one.Index]; there && other != one {
			w.Fatalf("%v was settled, and %v is", other, one)
		}
		w.settled[one.Index] = one
	}
	w.nodes[r.ID-1] = r
	w.way = append(w.way, out...)
}

// hasSettled tells whether a new leader has all that was settled.
func (w *world) hasSettled(r api.Raft) {
	for i, one := range w.settled {
		if i > r.Log.Base && (i > r.Log.Base+len(r.Log.Entries) || r.Log.Entries[i-r.Log.Base-1] != one) {
			w.Fatalf("a leader without what is settled: %v: %s", one, show(r))
		}
	}
}

// restart leaves of a node what was on its disk: all but Commit and what it knew of others.
func (w *world) restart(id int) {
	old := w.nodes[id-1]
	r, e := New(id, old.Seed, nil)
	want(w.T, "New", e, 0)
	r.Term, r.Vote, r.Log, r.Snap, r.SnapMembers, r.Members, r.Commit = old.Term, old.Vote, old.Log, old.Snap, old.SnapMembers, old.Members, old.Log.Base
	mayBe(w.T, "behind a restart", r, nil)
	w.nodes[id-1] = r
}

// change is the members with one more or one less, of n.
func (w *world) change(members []int, n int) string {
	m := slices.Clone(members)
	id := 1 + w.chance.Intn(n)
	if i := slices.Index(m, id); i >= 0 {
		m = slices.Delete(m, i, i+1)
	} else {
		m = slices.Sorted(slices.Values(append(m, id)))
	}
	return bytesOf(m)
}

// deliver hands on one of the first messages; some are lost, some come again.
func (w *world) deliver(lost, again int) {
	if len(w.way) == 0 {
		return
	}
	i := w.chance.Intn(min(len(w.way), 12))
	m := w.way[i]
	if w.chance.Intn(100) >= again {
		w.way = slices.Delete(w.way, i, i+1)
	}
	if w.chance.Intn(100) < lost {
		w.heard["lost"]++
		return
	}
	w.heard[fmt.Sprint("kind ", m.Kind, m.Ok)]++
	w.into(Take(w.nodes[m.To-1], m))
}

func (w *world) propose(k, kind int, data string) {
	r, out, index, e := Propose(w.nodes[k], kind, data)
	if e != nil {
		return
	}
	if one := r.Log.Entries[index-r.Log.Base-1]; one.Index != index || one.Data != data || one.Kind != kind {
		w.Fatalf("proposed %q: %v", data, one)
	}
	w.heard[fmt.Sprint("propose ", kind)]++
	w.into(r, out, nil)
}

// step does something somewhere.
func (w *world) step(what string, lost int) {
	k := w.chance.Intn(len(w.nodes))
	switch c := w.chance.Intn(1000); {
	case c < 400:
		w.into(Tick(w.nodes[k]))
	case c < 900:
		for range 3 {
			w.deliver(lost, 5)
		}
	case c < 950:
		w.propose(k, api.EntryData, what)
	case c < 970:
		w.propose(k, api.EntryConf, w.change(w.nodes[k].Members, len(w.nodes)))
	case c < 990:
		if r, e := Compact(w.nodes[k], w.nodes[k].Log.Base+w.chance.Intn(9), what); e == nil {
			w.heard["compact"]++
			w.into(r, nil, nil)
		}
	case c < 993:
		w.restart(k + 1)
	}
}

// same tells whether all logs have the same, wherever they have entries of one index and term.
func (w *world) same() {
	for _, a := range w.nodes {
		for _, b := range w.nodes {
			for _, one := range a.Log.Entries {
				i := one.Index - b.Log.Base - 1
				if i >= 0 && i < len(b.Log.Entries) && b.Log.Entries[i].Term == one.Term && b.Log.Entries[i] != one {
					w.Fatalf("%v and %v", one, b.Log.Entries[i])
				}
			}
		}
	}
}

// TestWorlds: P18.6: nodes whose messages are lost, come late and twice, that change their members and start again: one leader a term, and what is settled stays, and is the same everywhere.
func TestWorlds(t *testing.T) {
	heard, settled := map[string]int{}, 0
	for seed := range int64(150) {
		w := newWorld(t, seed+1, 6, [][]int{{1, 2, 3}, {1, 2, 3, 4, 5}, {2}}[seed%3]...)
		for step := range 4000 {
			w.step(fmt.Sprint(seed, ".", step), []int{0, 5, 15, 40}[seed%4])
		}
		w.same()
		settled += len(w.settled)
		for what, n := range w.heard {
			heard[what] += n
		}
	}
	for _, what := range []string{"kind 1 false", "kind 2 true", "kind 2 false", "kind 3 false", "kind 4 true", "kind 4 false", "kind 5 false", "kind 6 true", "kind 6 false", "kind 7 false", "propose 1", "propose 2", "compact", "leads", "lost"} {
		if heard[what] < 20 {
			t.Errorf("%q happened %d times", what, heard[what])
		}
	}
	if settled < 3000 {
		t.Errorf("%d settled", settled)
	}
}

// round lets all tick once, and all messages come.
func (w *world) round() {
	for k := range w.nodes {
		w.into(Tick(w.nodes[k]))
	}
	for steps := 0; len(w.way) > 0; steps++ {
		m := w.way[0]
		w.way = w.way[1:]
		w.into(Take(w.nodes[m.To-1], m))
		if steps > 10000 {
			w.Fatal("messages without end")
		}
	}
}

// leader is the place of the one that leads in the last term, -1 if none does.
func (w *world) leader() int {
	found := -1
	for k, r := range w.nodes {
		if r.Role == api.Leader && (found < 0 || r.Term > w.nodes[found].Term) {
			found = k
		}
	}
	return found
}

// TestRounds: P18.6, T5: where nothing is lost somebody leads soon and goes on, and what is proposed is settled at all of them within ten rounds.
func TestRounds(t *testing.T) {
	for n := 1; n <= 7; n++ {
		for seed := range int64(8) {
			w := newWorld(t, 1000*seed+int64(n), n, []int{1, 2, 3, 4, 5, 6, 7}[:n]...)
			for rounds := 0; w.leader() < 0; rounds++ {
				if rounds > 200 {
					t.Fatal("nobody leads")
				}
				w.round()
			}
			k := w.leader()
			term := w.nodes[k].Term
			for i := range 30 {
				w.propose(k, api.EntryData, fmt.Sprint(i))
				if i%5 == 0 {
					w.propose(k, api.EntryData, fmt.Sprint("again ", i))
				}
				index := w.nodes[k].Log.Base + len(w.nodes[k].Log.Entries)
				for range 10 {
					w.round()
				}
				for _, r := range w.nodes {
					if r.Commit < index || r.Term != term || r.Leader != k+1 {
						t.Fatalf("%d nodes: %d is not settled at %s", n, index, show(r))
					}
				}
				if i%7 == 3 {
					x := w.chance.Intn(n)
					r, e := Compact(w.nodes[x], w.nodes[x].Commit, "s")
					w.into(r, nil, e)
				}
			}
		}
	}
}

// TestRecovers: P18.6, T5: behind a time of losses all come to be the same again, those who were behind a snapshot, too.
func TestRecovers(t *testing.T) {
	for seed := range int64(40) {
		w := newWorld(t, seed+7, 5, 1, 2, 3, 4, 5)
		for step := range 2500 {
			if c := w.chance.Intn(1000); c < 980 || c >= 990 { // no changes of members: each is to come along
				k := w.chance.Intn(5)
				switch {
				case c < 400:
					w.into(Tick(w.nodes[k]))
				case c < 900:
					w.deliver(30, 10)
				case c < 970:
					w.propose(k, api.EntryData, fmt.Sprint(seed, ".", step))
				case c < 980:
					w.restart(k + 1)
				default:
					if r, e := Compact(w.nodes[k], w.nodes[k].Commit, fmt.Sprint(step)); e == nil {
						w.into(r, nil, nil)
					}
				}
			}
		}
		for range 150 {
			w.round()
		}
		k := w.leader()
		if k < 0 {
			t.Fatal("nobody leads")
		}
		w.propose(k, api.EntryData, "the last one")
		for range 10 {
			w.round()
		}
		index := w.nodes[k].Log.Base + len(w.nodes[k].Log.Entries)
		for _, r := range w.nodes {
			if r.Commit != index || r.Leader != k+1 || r.Log.Base+len(r.Log.Entries) != index {
				t.Fatalf("seed %d: want all up to %d: %s", seed, index, show(r))
			}
		}
	}
}

// TestChanges: P18.6: one member more at a time, then one less at a time, the leader among them: each change is settled, and somebody leads on.
func TestChanges(t *testing.T) {
	w := newWorld(t, 5, 7, 1)
	lead := func() int {
		for range 100 {
			if k := w.leader(); k >= 0 && slices.Contains(w.nodes[k].Members, k+1) {
				return k
			}
			w.round()
		}
		t.Fatal("nobody leads")
		return -1
	}
	members := []int{1}
	to := func(next []int) {
		k := lead()
		for range 10 {
			w.round()
		}
		r, out, index, e := Propose(w.nodes[k], api.EntryConf, bytesOf(next))
		want(t, fmt.Sprint("Propose ", next), e, 0)
		w.into(r, out, nil)
		for range 30 {
			w.round()
		}
		k = lead()
		for _, id := range next {
			if r := w.nodes[id-1]; r.Commit < index || !slices.Equal(r.Members, next) || r.Leader != k+1 {
				t.Fatalf("members %v: %s", next, show(r))
			}
		}
		members = next
	}
	for id := 2; id <= 7; id++ {
		if id == 4 { // from here on new ones begin with a snapshot
			k := lead()
			r, e := Compact(w.nodes[k], w.nodes[k].Commit, "s")
			w.into(r, nil, e)
		}
		to(append(slices.Clone(members), id))
	}
	for len(members) > 1 { // the leader is the first one to go
		i := slices.Index(members, lead()+1)
		to(slices.Delete(slices.Clone(members), i, i+1))
	}
	if len(w.leaders) < 6 {
		t.Errorf("leaders %v", w.leaders)
	}
}
