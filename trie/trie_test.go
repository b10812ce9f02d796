package trie

import (
	"errors"
	"fmt"
	"math/rand"
	"reflect"
	"slices"
	"strings"
	"testing"

	"dovecote/api"
	"dovecote/topic"
)

// noFilters: what Add refuses.
var noFilters = []string{
	"", "a#", "#a", "a+", "+a", "++", "##", "#/", "#/a", "#/#", "a/#/b", "a/b+", "a/#b", "$SYS#",
	"$share/", "$share//", "$share//a", "$share/g", "$share/g/", "$share/+/a", "$share/#", "$share/g#/a", "$share/g/a#", "$share/g/#/a",
	"$share/g/$share/h/a", "$share/g/$share/", "$share/$share/",
	"\x00", "a/\x00", "\xff", "\xc0\x80", "\xed\xa0\x80", "$share/\xff/a", "$share/g/\xff",
	deep("a", api.MaxLevels+1), deep("+", api.MaxLevels+1), deep("a", api.MaxLevels) + "/#", "/" + deep("a", api.MaxLevels), "$share/g/" + deep("a", api.MaxLevels+1),
	strings.Repeat("x", api.MaxText+1),
}

// noNames: what Match refuses.
var noNames = []string{
	"", "+", "#", "a/+", "a/#", "+/b", "a+", "#a", "$share/g/+", "$share/g/#", "$SYS/#",
	"\x00", "a/\x00/b", "\xff", "\xc0\x80", "\xed\xa0\x80", "a/\xe2\x82",
	deep("a", api.MaxLevels+1), deep("", api.MaxLevels+1), deep("a", api.MaxLevels) + "/", strings.Repeat("x", api.MaxText+1), strings.Repeat("/", api.MaxText),
}

// deep is a text of n levels, each of them level.
func deep(level string, n int) string {
	return strings.Repeat(level+"/", n-1) + level
}

// brief cuts what is too long to be shown.
func brief(s string) string {
	if len(s) > 80 {
		return s[:60] + ".." + s[len(s)-15:]
	}
	return s
}

// full is a subscription whose options are none of them 0.
func full(filter string) api.Sub {
	return api.Sub{Filter: filter, QoS: 2, NoLocal: true, AsPub: true, Handling: 1}
}

func wantTopicError(t *testing.T, what string, e error) {
	t.Helper()
	var n api.Errno
	if !errors.As(e, &n) || n != api.ErrTopic {
		t.Errorf("%q: error %v, want %v", brief(what), e, api.ErrTopic)
	}
	var f *api.Fault
	if !errors.As(e, &f) || f.Layer != "trie" {
		t.Errorf("%q: error %v does not tell its layer", brief(what), e)
	}
}

func wantAdd(t *testing.T, x *Trie, client string, s api.Sub, had bool) {
	t.Helper()
	if is, e := x.Add(client, s); is != had || e != nil {
		t.Errorf("Add(%q, %q): %v, %v; want %v", client, brief(s.Filter), is, e, had)
	}
}

func wantRemove(t *testing.T, x *Trie, client, filter string, had bool) {
	t.Helper()
	if is := x.Remove(client, filter); is != had {
		t.Errorf("Remove(%q, %q): %v, want %v", client, brief(filter), is, had)
	}
}

func wantCount(t *testing.T, x *Trie, n int) {
	t.Helper()
	if x.Count() != n {
		t.Errorf("Count(): %d, want %d", x.Count(), n)
	}
}

func wantHits(t *testing.T, x *Trie, name string, want ...Hit) {
	t.Helper()
	l, e := x.Match(name)
	if e != nil || !slices.Equal(l, want) {
		t.Errorf("Match(%q): %v, %v; want %v", brief(name), l, e, want)
	}
}

func wantRefused(t *testing.T, x *Trie, name string) {
	t.Helper()
	l, e := x.Match(name)
	wantTopicError(t, name, e)
	if len(l) != 0 {
		t.Errorf("Match(%q) tells %v beside its error", brief(name), l)
	}
}

// wantBare: nothing is kept of what was there.
func wantBare(t *testing.T, x *Trie) {
	t.Helper()
	wantCount(t, x, 0)
	if !x.root.bare() {
		t.Errorf("of an index of nobody nodes are left: %v", x.root)
	}
}

// model is an index as a list: what topic.Match tells of each one.
type model []Hit

func (m *model) find(client, filter string) int {
	return slices.IndexFunc(*m, func(h Hit) bool { return h.Client == client && h.Sub.Filter == filter })
}

func (m *model) add(client string, s api.Sub) bool {
	at := m.find(client, s.Filter)
	if at < 0 {
		*m = append(*m, Hit{client, s})
		return false
	}
	(*m)[at].Sub = s
	return true
}

func (m *model) remove(client, filter string) bool {
	at := m.find(client, filter)
	if at >= 0 {
		*m = slices.Delete(*m, at, at+1)
	}
	return at >= 0
}

func (m *model) match(t *testing.T, name string) []Hit {
	t.Helper()
	var l []Hit
	for _, h := range *m {
		_, f, e := topic.Filter(h.Sub.Filter)
		if e != nil {
			t.Fatal(e)
		}
		is, e := topic.Match(f, name)
		if e != nil {
			t.Fatal(e)
		}
		if is {
			l = append(l, h)
		}
	}
	slices.SortFunc(l, func(a, b Hit) int {
		if a.Client != b.Client {
			return strings.Compare(a.Client, b.Client)
		}
		return strings.Compare(a.Sub.Filter, b.Sub.Filter)
	})
	return l
}

// P7.1
func TestNobody(t *testing.T) {
	for _, x := range []*Trie{New(), {}} {
		wantBare(t, x)
		for _, name := range []string{"a", "a/b", "/", "//", "$SYS", "$share/g/a", deep("a", api.MaxLevels), strings.Repeat("x", api.MaxText)} {
			wantHits(t, x, name)
			wantRemove(t, x, "c", name, false)
		}
		for _, filter := range []string{"#", "+", "a/#", "$share/g/a", "$share/g/#"} {
			wantRemove(t, x, "c", filter, false)
		}
		wantRemove(t, x, "", "", false)
		wantBare(t, x)
		wantAdd(t, x, "c", full("a"), false)
		wantHits(t, x, "a", Hit{"c", full("a")})
	}
}

// P7.1: the document's example.
func TestExample(t *testing.T) {
	x := New()
	wantAdd(t, x, "x", api.Sub{Filter: "a/+"}, false)
	wantAdd(t, x, "y", api.Sub{Filter: "#"}, false)
	wantHits(t, x, "a/b", Hit{"x", api.Sub{Filter: "a/+"}}, Hit{"y", api.Sub{Filter: "#"}})
}

// P7.1: the later subscription stands, whatever its options are.
func TestAddAgain(t *testing.T) {
	for _, f := range []string{"a", "a/b", "+", "#", "/", "a/#", "$share/g/a", "$share/g/a/#"} {
		_, plain, _ := topic.Filter(f)
		name := strings.NewReplacer("+", "a", "#", "b").Replace(plain)
		x := New()
		had := false
		for _, s := range []api.Sub{{Filter: f}, full(f), {Filter: f, QoS: 1}, {Filter: f, QoS: 1}, {Filter: f, NoLocal: true}, {Filter: f, AsPub: true}, {Filter: f, Handling: 2}, {Filter: f, QoS: -7, Handling: 1 << 40}, {Filter: f}} {
			wantAdd(t, x, "c", s, had)
			had = true
			wantCount(t, x, 1)
			wantHits(t, x, name, Hit{"c", s})
		}
	}
}

// P7.1: each has its own.
func TestAddByAnotherClient(t *testing.T) {
	x := New()
	clients := []string{"", "C", "a", "c", "cc", "é", "\x00", "\xff", "c/a", "#"}
	for i, c := range clients {
		wantAdd(t, x, c, api.Sub{Filter: "a", QoS: i}, false)
		wantCount(t, x, i+1)
	}
	wantAdd(t, x, "c", full("a"), true)
	wantCount(t, x, len(clients))
	wantHits(t, x, "a",
		Hit{"", api.Sub{Filter: "a", QoS: 0}}, Hit{"\x00", api.Sub{Filter: "a", QoS: 6}}, Hit{"#", api.Sub{Filter: "a", QoS: 9}},
		Hit{"C", api.Sub{Filter: "a", QoS: 1}}, Hit{"a", api.Sub{Filter: "a", QoS: 2}}, Hit{"c", full("a")},
		Hit{"c/a", api.Sub{Filter: "a", QoS: 8}}, Hit{"cc", api.Sub{Filter: "a", QoS: 4}}, Hit{"é", api.Sub{Filter: "a", QoS: 5}}, Hit{"\xff", api.Sub{Filter: "a", QoS: 7}})
}

// P7.1: a client's filters, with groups and without, are each for themselves.
func TestAddWithAnotherFilter(t *testing.T) {
	x := New()
	rising := []string{"#", "$share/g/#", "$share/g/+", "$share/g/a", "$share/g/a/#", "$share/h/a", "+", "+/#", "a", "a/#"}
	added := []string{"a", "$share/g/a", "$share/h/a", "+", "a/#", "#", "$share/g/#", "$share/g/a/#", "+/#", "$share/g/+"}
	for i, f := range added {
		wantAdd(t, x, "c", full(f), false)
		wantCount(t, x, i+1)
	}
	var want []Hit
	for _, f := range rising {
		want = append(want, Hit{"c", full(f)})
	}
	wantHits(t, x, "a", want...)
	for _, f := range added {
		wantAdd(t, x, "c", full(f), true)
	}
	wantCount(t, x, len(added))
	wantHits(t, x, "a", want...)
}

// P7.1, R4: what is no filter is refused, and nothing is changed by it.
func TestAddRefusesNoFilter(t *testing.T) {
	x, y := New(), New()
	wantAdd(t, y, "c", full("#"), false)
	wantAdd(t, y, "c", full("$share/g/a"), false)
	for _, f := range noFilters {
		for _, trie := range []*Trie{x, y} {
			had, e := trie.Add("c", full(f))
			wantTopicError(t, f, e)
			if had {
				t.Errorf("Add(%q) tells true beside its error", brief(f))
			}
			wantRemove(t, trie, "c", f, false)
		}
	}
	wantBare(t, x)
	wantCount(t, y, 2)
	wantHits(t, y, "a", Hit{"c", full("#")}, Hit{"c", full("$share/g/a")})
}

// P7.1
func TestRemove(t *testing.T) {
	x := New()
	wantAdd(t, x, "c", full("a/b"), false)
	wantAdd(t, x, "c", full("a"), false)
	wantAdd(t, x, "d", full("a/b"), false)
	wantAdd(t, x, "c", full("$share/g/a/b"), false)
	for _, never := range []Hit{
		{"c", api.Sub{Filter: "a/c"}}, {"c", api.Sub{Filter: "a/b/c"}}, {"c", api.Sub{Filter: "b"}}, {"c", api.Sub{Filter: "a/"}}, {"c", api.Sub{Filter: "/a"}},
		{"c", api.Sub{Filter: "a/+"}}, {"c", api.Sub{Filter: "a/#"}}, {"c", api.Sub{Filter: "#"}}, {"c", api.Sub{Filter: "+/b"}},
		{"c", api.Sub{Filter: "$share/h/a/b"}}, {"c", api.Sub{Filter: "$share/g/a"}}, {"d", api.Sub{Filter: "$share/g/a/b"}},
		{"d", api.Sub{Filter: "a"}}, {"e", api.Sub{Filter: "a/b"}}, {"", api.Sub{Filter: "a/b"}}, {"C", api.Sub{Filter: "a/b"}},
	} {
		wantRemove(t, x, never.Client, never.Sub.Filter, false)
		wantCount(t, x, 4)
	}
	wantRemove(t, x, "c", "a/b", true)
	wantCount(t, x, 3)
	wantRemove(t, x, "c", "a/b", false)
	wantCount(t, x, 3)
	wantHits(t, x, "a/b", Hit{"c", full("$share/g/a/b")}, Hit{"d", full("a/b")})
	wantHits(t, x, "a", Hit{"c", full("a")})
	wantRemove(t, x, "c", "a", true)
	wantHits(t, x, "a")
	wantHits(t, x, "a/b", Hit{"c", full("$share/g/a/b")}, Hit{"d", full("a/b")})
	wantRemove(t, x, "c", "$share/g/a/b", true)
	wantHits(t, x, "a/b", Hit{"d", full("a/b")})
	wantRemove(t, x, "d", "a/b", true)
	wantHits(t, x, "a/b")
	wantBare(t, x)
}

// P7.1: what was removed may be added again, as if it had never been there.
func TestAddBehindRemove(t *testing.T) {
	x := New()
	for _, f := range []string{"a", "a/b/c", "a/+/c", "#", "$share/g/a/b/c"} {
		wantAdd(t, x, "c", full(f), false)
		wantRemove(t, x, "c", f, true)
		wantAdd(t, x, "c", api.Sub{Filter: f}, false)
		wantAdd(t, x, "c", api.Sub{Filter: f}, true)
	}
	wantCount(t, x, 5)
	wantHits(t, x, "a/b/c", Hit{"c", api.Sub{Filter: "#"}}, Hit{"c", api.Sub{Filter: "$share/g/a/b/c"}}, Hit{"c", api.Sub{Filter: "a/+/c"}}, Hit{"c", api.Sub{Filter: "a/b/c"}})
}

// matched: filters, and what they match of the names beside them.
var matched = []struct {
	f       string
	yes, no []string
}{
	{"a", []string{"a"}, []string{"A", "b", "aa", "a/", "/a", "a/a", "$a"}},
	{"a/b", []string{"a/b"}, []string{"a", "b", "a/b/", "a/b/c", "/a/b", "a//b", "b/a"}},
	// +: just one level, an empty one, too.
	{"+", []string{"a", "b", " "}, []string{"/", "a/", "/a", "a/b", "$", "$a"}},
	{"a/+", []string{"a/b", "a/", "a/$b"}, []string{"a", "b/b", "a/b/c", "a/b/", "a//"}},
	{"+/b", []string{"a/b", "/b"}, []string{"b", "a/c", "a/b/c", "$a/b", "$/b"}},
	{"a/+/c", []string{"a/b/c", "a//c"}, []string{"a/c", "a/b/b/c", "a/b", "a/b/d"}},
	{"+/+", []string{"a/b", "/", "a/", "/a", "/$"}, []string{"a", "a/b/c", "//", "$/", "$a/b"}},
	// #: all levels that are left, none, too.
	{"#", []string{"a", "/", "a/b", "//", "a/$b"}, []string{"$", "$a", "$a/b", "$/"}},
	{"a/#", []string{"a", "a/", "a/b", "a/b/c", "a//", "a/$b"}, []string{"b", "aa", "/a", "$a", "b/a"}},
	{"a/b/#", []string{"a/b", "a/b/", "a/b/c/d"}, []string{"a", "a/", "a/bb", "a/c/b"}},
	{"+/#", []string{"a", "/", "a/b/c", "/a"}, []string{"$", "$a", "$a/b"}},
	{"a/+/#", []string{"a/b", "a/", "a/b/c", "a//"}, []string{"a", "b/b"}},
	// Empty levels.
	{"/", []string{"/"}, []string{"a", "//", "a/", "/a"}},
	{"//", []string{"//"}, []string{"/", "///", "a//"}},
	{"/a", []string{"/a"}, []string{"a", "a/", "//a"}},
	{"a/", []string{"a/"}, []string{"a", "/a", "a//"}},
	{"/+", []string{"/", "/a", "/$a"}, []string{"a", "//", "a/a"}},
	{"/#", []string{"/", "//", "/a", "/a/b"}, []string{"a", "a/", "$/"}},
	{"+/", []string{"/", "a/"}, []string{"a", "/a", "$/", "$a/"}},
	{"a//#", []string{"a/", "a//", "a//b"}, []string{"a", "a/b"}},
	// Names that begin with $.
	{"$", []string{"$"}, []string{"a", "$a", "$/"}},
	{"$/#", []string{"$", "$/", "$/a"}, []string{"$a", "a"}},
	{"$a/#", []string{"$a", "$a/b", "$a/b/c"}, []string{"$", "$b", "a"}},
	{"$a/+", []string{"$a/b", "$a/"}, []string{"$a", "$a/b/c", "$b/b"}},
	{"$share", []string{"$share"}, []string{"$share/", "$share/g/a", "$shared"}},
	{"$shared/#", []string{"$shared", "$shared/g/a"}, []string{"$share", "$share/g/a"}},
	// A sign that means something to no one else.
	{"é/*", []string{"é/*"}, []string{"é/a", "é"}},
}

// P7.1: with a group, or without, alone, or among all others.
func TestMatch(t *testing.T) {
	all := New()
	for _, c := range matched {
		for _, f := range []string{c.f, "$share/g/" + c.f} {
			x := New()
			wantAdd(t, x, "c", full(f), false)
			wantAdd(t, all, f, full(f), false)
			for _, s := range c.yes {
				wantHits(t, x, s, Hit{"c", full(f)})
			}
			for _, s := range c.no {
				wantHits(t, x, s)
			}
		}
	}
	for _, c := range matched {
		for _, f := range []string{c.f, "$share/g/" + c.f} {
			for _, s := range append(slices.Clone(c.yes), c.no...) {
				l, e := all.Match(s)
				if e != nil || slices.Contains(l, Hit{f, full(f)}) != slices.Contains(c.yes, s) {
					t.Errorf("Match(%q) among all: %v, %v", s, l, e)
				}
			}
		}
	}
}

// P7.1: a group is no part of what matches; a name that begins as one does is a name like others.
func TestMatchOfGroups(t *testing.T) {
	x := New()
	for _, f := range []string{"$share/g/a", "$share/a/g", "$share/g/+", "$share/g/#", "$share/$share/a", "$share/h/$share", "#", "+/+/+"} {
		wantAdd(t, x, "c", full(f), false)
	}
	wantHits(t, x, "a", Hit{"c", full("#")}, Hit{"c", full("$share/$share/a")}, Hit{"c", full("$share/g/#")}, Hit{"c", full("$share/g/+")}, Hit{"c", full("$share/g/a")})
	wantHits(t, x, "g", Hit{"c", full("#")}, Hit{"c", full("$share/a/g")}, Hit{"c", full("$share/g/#")}, Hit{"c", full("$share/g/+")})
	wantHits(t, x, "g/a", Hit{"c", full("#")}, Hit{"c", full("$share/g/#")})
	wantHits(t, x, "$share", Hit{"c", full("$share/h/$share")})
	for _, s := range []string{"$share/g/a", "$share/g/", "$share/", "$share//", "$share/$share/a", "$a"} {
		wantHits(t, x, s)
	}
}

// P7.1, R4
func TestMatchRefusesNoName(t *testing.T) {
	x, y := New(), New()
	wantAdd(t, y, "c", full("#"), false)
	wantAdd(t, y, "c", full("a/+"), false)
	wantAdd(t, y, "c", full("+"), false)
	for _, s := range noNames {
		wantRefused(t, x, s)
		wantRefused(t, y, s)
	}
	wantBare(t, x)
	wantCount(t, y, 3)
	wantHits(t, y, "a/", Hit{"c", full("#")}, Hit{"c", full("a/+")})
}

// P7.1: as many levels, and as many bytes, as there may be.
func TestMatchAtTheLimits(t *testing.T) {
	x := New()
	most, less := deep("a", api.MaxLevels), deep("a", api.MaxLevels-1)
	long := strings.Repeat("x", api.MaxText)
	filters := []string{most, less, deep("+", api.MaxLevels), less + "/#", less + "/+", deep("+", api.MaxLevels-1) + "/#", long, "$share/g/" + most, "$share/g/" + long[9:]}
	for i, f := range filters {
		wantAdd(t, x, string(rune('a'+i)), full(f), false)
	}
	wantHits(t, x, most, Hit{"a", full(filters[0])}, Hit{"c", full(filters[2])}, Hit{"d", full(filters[3])}, Hit{"e", full(filters[4])}, Hit{"f", full(filters[5])}, Hit{"h", full(filters[7])})
	wantHits(t, x, less, Hit{"b", full(filters[1])}, Hit{"d", full(filters[3])}, Hit{"f", full(filters[5])})
	wantHits(t, x, long, Hit{"g", full(long)})
	wantHits(t, x, long[9:], Hit{"i", full(filters[8])})
	for i, f := range filters {
		wantRemove(t, x, string(rune('a'+i)), f, true)
	}
	wantBare(t, x)
}

// P7.1: clients and filters rise by their bytes, and the client comes first.
func TestOrder(t *testing.T) {
	x := New()
	clients := []string{"", "\x00", "A", "B", "a", "a\x00", "aa", "ab", "b", "é", "\xff"}
	filters := []string{"#", "$share/G/a/b", "$share/g/#", "$share/g/a/b", "$share/gg/a/b", "+/#", "+/+", "+/b", "a/#", "a/+", "a/+/#", "a/b", "a/b/#"}
	var want []Hit
	for _, c := range clients {
		for _, f := range filters {
			want = append(want, Hit{c, full(f)})
		}
	}
	r := rand.New(rand.NewSource(7))
	for _, at := range r.Perm(len(want)) {
		wantAdd(t, x, want[at].Client, want[at].Sub, false)
	}
	for range 20 {
		wantHits(t, x, "a/b", want...)
	}
}

// P7.1: many of one filter, and many filters.
func TestMany(t *testing.T) {
	x := New()
	for i := range 3000 {
		wantAdd(t, x, fmt.Sprint(i), full("a/b"), false)
		wantAdd(t, x, "c", full(fmt.Sprint("n/", i)), false)
	}
	wantCount(t, x, 6000)
	l, e := x.Match("a/b")
	if len(l) != 3000 || e != nil || !slices.IsSortedFunc(l, func(a, b Hit) int { return strings.Compare(a.Client, b.Client) }) {
		t.Errorf("%d, %v", len(l), e)
	}
	for i := range 3000 {
		wantHits(t, x, fmt.Sprint("n/", i), Hit{"c", full(fmt.Sprint("n/", i))})
		wantRemove(t, x, fmt.Sprint(i), "a/b", true)
		wantRemove(t, x, "c", fmt.Sprint("n/", i), true)
	}
	wantBare(t, x)
}

// P7.1: a name has as many ways through the nodes as there are filters of its levels and +: none is gone twice.
func TestManyWays(t *testing.T) {
	x := New()
	const depth = 10
	for way := range 1 << depth {
		levels := make([]string, depth)
		for i := range levels {
			levels[i] = []string{"a", "+"}[way>>i&1]
		}
		wantAdd(t, x, "c", full(strings.Join(levels, "/")), false)
		wantAdd(t, x, "d", full(strings.Join(levels, "/")+"/#"), false)
	}
	for name, want := range map[string]int{deep("a", depth): 2 << depth, deep("a", depth+1): 1 << depth, deep("a", depth-1): 0, "$" + deep("a", depth)[1:]: 0, "b" + deep("a", depth)[1:]: 1 << depth} {
		l, e := x.Match(name)
		if len(l) != want || e != nil {
			t.Errorf("Match(%q): %d, %v; want %d", name, len(l), e, want)
		}
		if len(slices.Compact(l)) != want {
			t.Errorf("Match(%q) tells one twice", name)
		}
	}
}

// words goes through all texts of 1 to most of the pieces.
func words(pieces []string, most int) (l []string) {
	last := []string{""}
	for range most {
		var next []string
		for _, s := range last {
			for _, p := range pieces {
				next = append(next, s+p)
			}
		}
		l, last = append(l, next...), next
	}
	return l
}

// P7.1: of all short filters those match that topic.Match tells of.
func TestAllShortTexts(t *testing.T) {
	x := New()
	var m model
	for i, f := range words([]string{"a", "/", "+", "#", "$", "$share/g/"}, 4) {
		if _, _, e := topic.Filter(f); e != nil {
			continue
		}
		client := string(rune('a' + i%3))
		wantAdd(t, x, client, full(f), m.add(client, full(f)))
	}
	wantCount(t, x, len(m))
	for _, s := range words([]string{"a", "b", "/", "$"}, 4) {
		wantHits(t, x, s, m.match(t, s)...)
	}
	for i := len(m) - 1; i >= 0; i-- {
		wantRemove(t, x, m[i].Client, m[i].Sub.Filter, true)
	}
	wantBare(t, x)
}

// pick is one of l.
func pick(r *rand.Rand, l ...string) string { return l[r.Intn(len(l))] }

// drawnFilter is one of few levels, so that many are alike.
func drawnFilter(r *rand.Rand) string {
	var levels []string
	for range 1 + r.Intn(4) {
		levels = append(levels, pick(r, "a", "b", "", "+", "$"))
	}
	if r.Intn(3) == 0 {
		levels = append(levels, "#")
	}
	return pick(r, "", "", "$share/g/", "$share/h/") + strings.Join(levels, "/")
}

func drawnName(r *rand.Rand) string {
	name := pick(r, "a", "b", "/", "$", "/a")
	for range r.Intn(5) {
		name += "/" + pick(r, "a", "b", "", "$")
	}
	return name
}

// P7.1: whatever is added and removed, in whatever order.
func TestByChance(t *testing.T) {
	r := rand.New(rand.NewSource(71))
	for range 60 {
		x := New()
		var m model
		for range 200 {
			client, f := pick(r, "a", "b", "c", ""), drawnFilter(r)
			if len(m) > 0 && r.Intn(3) == 0 { // one that is there
				h := m[r.Intn(len(m))]
				client, f = h.Client, h.Sub.Filter
			}
			_, _, e := topic.Filter(f)
			switch {
			case e != nil:
				_, e = x.Add(client, full(f))
				wantTopicError(t, f, e)
			case r.Intn(2) == 0:
				wantRemove(t, x, client, f, m.remove(client, f))
			default:
				s := api.Sub{Filter: f, QoS: r.Intn(3), AsPub: r.Intn(2) == 0}
				wantAdd(t, x, client, s, m.add(client, s))
			}
			wantCount(t, x, len(m))
			name := drawnName(r)
			wantHits(t, x, name, m.match(t, name)...)
		}
		for _, h := range m {
			wantRemove(t, x, h.Client, h.Sub.Filter, true)
		}
		wantBare(t, x)
	}
}

// P7.2: the order of adding is not to be seen, nor what was there in between.
func TestAnotherOrder(t *testing.T) {
	r := rand.New(rand.NewSource(72))
	for range 40 {
		var m model
		for len(m) < 40 {
			f := drawnFilter(r)
			if _, _, e := topic.Filter(f); e == nil {
				m.add(pick(r, "a", "b", "c"), api.Sub{Filter: f, QoS: r.Intn(3)})
			}
		}
		x, y := New(), New()
		for _, h := range m {
			wantAdd(t, x, h.Client, h.Sub, false)
		}
		for _, at := range r.Perm(len(m)) {
			wantAdd(t, y, m[at].Client, full(m[at].Sub.Filter), false)
		}
		for _, at := range r.Perm(len(m)) {
			if r.Intn(2) == 0 {
				wantRemove(t, y, m[at].Client, m[at].Sub.Filter, true)
			}
			y.Add(m[at].Client, m[at].Sub)
		}
		wantCount(t, y, x.Count())
		for range 60 {
			name := drawnName(r)
			a, e := x.Match(name)
			if e != nil {
				t.Fatal(e)
			}
			wantHits(t, y, name, a...)
		}
		if !reflect.DeepEqual(x.root, y.root) {
			t.Error("more is kept than what was added")
		}
		for _, at := range r.Perm(len(m)) {
			wantRemove(t, x, m[at].Client, m[at].Sub.Filter, true)
		}
		wantBare(t, x)
		wantCount(t, y, len(m))
	}
}

// R2: what is told is new, and has its room for itself.
func TestToldIsNew(t *testing.T) {
	x := New()
	for _, c := range []string{"a", "b", "c"} {
		wantAdd(t, x, c, full("a"), false)
	}
	want := []Hit{{"a", full("a")}, {"b", full("a")}, {"c", full("a")}}
	first, _ := x.Match("a")
	second, _ := x.Match("a")
	for i := range first {
		first[i] = Hit{"z", api.Sub{Filter: "z"}}
	}
	_ = append(first[:0], Hit{}, Hit{}, Hit{}, Hit{}, Hit{})
	_ = append(first, Hit{})
	if !slices.Equal(second, want) {
		t.Errorf("one answer writes into another: %v", second)
	}
	wantHits(t, x, "a", want...)
}

// R2: objects have nothing in common.
func TestObjectsApart(t *testing.T) {
	x, y := New(), New()
	wantAdd(t, x, "c", full("a"), false)
	wantBare(t, y)
	wantHits(t, y, "a")
	wantAdd(t, y, "c", api.Sub{Filter: "a"}, false)
	wantRemove(t, x, "c", "a", true)
	wantHits(t, y, "a", Hit{"c", api.Sub{Filter: "a"}})
	wantCount(t, y, 1)
	wantBare(t, x)
}
