package retain

import (
	"errors"
	"fmt"
	"maps"
	"math"
	"math/rand"
	"reflect"
	"slices"
	"strings"
	"testing"

	"dovecote/api"
	"dovecote/topic"
)

// noNames: topics that no message has.
var noNames = []string{
	"", "+", "#", "a/+", "a/#", "+/b", "a+", "#a", "$share/g/+", "$share/g/#", "$SYS/#",
	"\x00", "a/\x00/b", "\xff", "\xc0\x80", "\xed\xa0\x80", "a/\xe2\x82",
	deep("a", api.MaxLevels+1), deep("", api.MaxLevels+1), strings.Repeat("x", api.MaxText+1), strings.Repeat("/", api.MaxText),
}

// noFilters: what Match refuses.
var noFilters = []string{
	"", "a#", "#a", "a+", "+a", "++", "##", "#/", "#/a", "#/#", "a/#/b", "a/b+", "a/#b", "$SYS#",
	"\x00", "a/\x00", "\xff", "\xc0\x80", "\xed\xa0\x80",
	deep("a", api.MaxLevels+1), deep("+", api.MaxLevels+1), deep("a", api.MaxLevels) + "/#", strings.Repeat("x", api.MaxText+1),
	"$share/", "$share//", "$share//a", "$share/g", "$share/g/", "$share/+/a", "$share/#", "$share/g#/a", "$share/g/a#", "$share/g/#/a",
	"$share/g/$share/h/a", "$share/$share/", "$share/\xff/a",
	// With a group.
	"$share/g/a", "$share/g/#", "$share/g/+", "$share/g//", "$share/a/a", "$share/$share/a", "$share/$/$a", "$share/g/" + deep("a", api.MaxLevels),
}

// noLists: what every call refuses.
var noLists = map[string][]api.Message{
	"falling":               plain("b", "a"),
	"falling at the end":    plain("a", "b", "d", "c"),
	"falling at the front":  plain("b", "a", "c", "d"),
	"falling in the midst":  plain("a", "c", "b", "d"),
	"turned round":          plain("d", "c", "b", "a"),
	"one apart":             plain("b", "c", "a"),
	"by length":             plain("b", "aa"),
	"by letters":            plain("a", "B"),
	"by code units":         plain("\U00010000", "\uffff"),
	"by levels":             plain("a/b", "a.b"),
	"shorter one behind":    plain("a/", "a"),
	"hidden ones behind":    plain("a", "$a"),
	"twice":                 plain("a", "a"),
	"twice in the midst":    plain("a", "b", "b", "c"),
	"twice at the end":      plain("a", "b", "b"),
	"twice apart":           plain("a", "b", "a"),
	"twice, expired":        {{Topic: "a", Payload: "x", Until: 1}, {Topic: "a", Payload: "y"}},
	"twice, one empty":      {{Topic: "a"}, {Topic: "a", Payload: "y"}},
	"no name alone":         plain("+"),
	"an empty one alone":    plain(""),
	"an empty one in front": plain("", "a"),
	"no name at the end":    plain("a", "b/#"),
	"no name in the midst":  plain("a", "a/+", "b"),
	"no name, expired":      {{Topic: "#", Payload: "x", Until: 1}},
	"no name without bytes": {{Topic: "#"}},
	"too many levels":       plain("a", deep("a", api.MaxLevels+1)),
	"too many bytes":        plain("a", strings.Repeat("x", api.MaxText+1)),
	"no text":               plain("a", "\xff"),
	"a nought":              plain("\x00", "a"),
	"full, and falling":     append(many(api.MaxRetained-1), plain("a")...),
	"full, and twice":       append(many(api.MaxRetained-1), many(api.MaxRetained - 1)[api.MaxRetained-2]),
	"more than full":        append(many(api.MaxRetained+5), plain("a")...),
}

// deep is a text of n levels, each of them level.
func deep(level string, n int) string {
	return strings.Repeat(level+"/", n-1) + level
}

// brief cuts what is too long to be shown.
func brief(s string) string {
	if len(s) > 80 {
		return s[:60] + ".." + s[len(s)-15:]
	}
	return s
}

// full is a message of which no field is 0 or empty.
func full(name, payload string) api.Message {
	return api.Message{Topic: name, Payload: payload, QoS: 2, Retain: true, From: "c", Until: 99, Props: []api.Prop{{ID: 0x26, Str: "k", Val: name}, {ID: 1, Num: 1}}}
}

// plain are messages of these topics, each with a payload.
func plain(names ...string) (l []api.Message) {
	for _, s := range names {
		l = append(l, api.Message{Topic: s, Payload: "x"})
	}
	return l
}

// many are n messages by rising topics.
func many(n int) (l []api.Message) {
	for i := range n {
		l = append(l, full(fmt.Sprintf("t/%05d", i), "x"))
	}
	return l
}

// clone is a list that has nothing in common with l.
func clone(l []api.Message) []api.Message {
	l = slices.Clone(l)
	for i := range l {
		l[i].Props = slices.Clone(l[i].Props)
	}
	return l
}

// same: a nil list and an empty one are one.
func same(a, b []api.Message) bool {
	return slices.EqualFunc(a, b, func(x, y api.Message) bool {
		props := slices.Equal(x.Props, y.Props)
		x.Props, y.Props = nil, nil
		return props && reflect.DeepEqual(x, y)
	})
}

func show(l []api.Message) string {
	s := make([]string, len(l))
	for i, m := range l {
		s[i] = fmt.Sprintf("%q=%q(%d %v %q %d %v)", brief(m.Topic), brief(m.Payload), m.QoS, m.Retain, m.From, m.Until, m.Props)
	}
	return strings.Join(s, ", ")
}

// answer holds an answer against what is wanted.
func answer(t *testing.T, what string, got []api.Message, e error, want []api.Message) {
	t.Helper()
	if e != nil || !same(got, want) {
		t.Errorf("%s: %s; %v; want %s", brief(what), show(got), e, show(want))
	}
}

// refusal: the error has this number, and no other one, and nothing is told beside it.
func refusal(t *testing.T, what string, got []api.Message, e error, want api.Errno) {
	t.Helper()
	var n api.Errno
	if !errors.As(e, &n) || n != want {
		t.Errorf("%s: error %v, want %v", brief(what), e, want)
	}
	for other := api.ErrForm; other <= api.ErrFull; other++ {
		if other != want && errors.Is(e, other) {
			t.Errorf("%s: error %v has %v within it, too", brief(what), e, other)
		}
	}
	var f *api.Fault
	if !errors.As(e, &f) || f.Layer != "retain" {
		t.Errorf("%s: error %v does not tell its layer", brief(what), e)
	}
	if len(got) != 0 {
		t.Errorf("%s: %s beside its error", brief(what), show(got))
	}
}

// held runs a call with l, and looks whether l is as it was.
func held(t *testing.T, what string, l []api.Message, call func() ([]api.Message, error)) ([]api.Message, error) {
	t.Helper()
	was := clone(l)
	got, e := call()
	if !reflect.DeepEqual(l, was) {
		t.Errorf("%s: the list is changed: %s", brief(what), show(l))
	}
	return got, e
}

func put(t *testing.T, l []api.Message, m api.Message) (string, []api.Message, error) {
	t.Helper()
	what := fmt.Sprintf("Put of %q, %q", m.Topic, m.Payload)
	was := slices.Clone(m.Props)
	got, e := held(t, what, l, func() ([]api.Message, error) { return Put(l, m) })
	if !slices.Equal(m.Props, was) {
		t.Errorf("%s: its properties are changed: %v", brief(what), m.Props)
	}
	return what, got, e
}

func match(t *testing.T, l []api.Message, f string, now int) (string, []api.Message, error) {
	t.Helper()
	what := fmt.Sprintf("Match of %q at %d", f, now)
	got, e := held(t, what, l, func() ([]api.Message, error) { return Match(l, f, now) })
	return what, got, e
}

func drop(t *testing.T, l []api.Message, now int) (string, []api.Message, error) {
	t.Helper()
	what := fmt.Sprintf("Drop at %d", now)
	got, e := held(t, what, l, func() ([]api.Message, error) { return Drop(l, now) })
	return what, got, e
}

func wantPut(t *testing.T, l []api.Message, m api.Message, want ...api.Message) []api.Message {
	t.Helper()
	what, got, e := put(t, l, m)
	answer(t, what, got, e, want)
	return got
}

func wantNoPut(t *testing.T, l []api.Message, m api.Message, want api.Errno) {
	t.Helper()
	what, got, e := put(t, l, m)
	refusal(t, what, got, e, want)
}

func wantMatch(t *testing.T, l []api.Message, f string, now int, want ...api.Message) {
	t.Helper()
	what, got, e := match(t, l, f, now)
	answer(t, what, got, e, want)
}

func wantNoMatch(t *testing.T, l []api.Message, f string, now int, want api.Errno) {
	t.Helper()
	what, got, e := match(t, l, f, now)
	refusal(t, what, got, e, want)
}

func wantDrop(t *testing.T, l []api.Message, now int, want ...api.Message) {
	t.Helper()
	what, got, e := drop(t, l, now)
	answer(t, what, got, e, want)
}

func wantNoDrop(t *testing.T, l []api.Message, now int, want api.Errno) {
	t.Helper()
	what, got, e := drop(t, l, now)
	refusal(t, what, got, e, want)
}

// P8.1: the document's example.
func TestExample(t *testing.T) {
	l := wantPut(t, nil, api.Message{Topic: "a", Payload: "x"}, api.Message{Topic: "a", Payload: "x"})
	wantPut(t, l, api.Message{Topic: "a"})
}

// P8.1: whatever else a message has, it is kept as it is.
func TestPutIntoNothing(t *testing.T) {
	for _, l := range [][]api.Message{nil, {}, make([]api.Message, 0, 5)} {
		for _, m := range []api.Message{
			full("a", "x"), {Topic: "a", Payload: "x"}, {Topic: "a", Payload: "\x00"}, {Topic: "a", Payload: " "}, {Topic: "a", Payload: "\xff\xfe"},
			full("/", "x"), full("//", "x"), full("$SYS/a", "x"), full("$share/g/a", "x"), full("é", "x"), full(" ", "x"),
			full(deep("a", api.MaxLevels), "x"), full(deep("", api.MaxLevels), "x"), full(strings.Repeat("x", api.MaxText), "x"), full("a", strings.Repeat("x", 1<<20)),
			{Topic: "a", Payload: "x", QoS: -1, From: "\xff", Until: -1, Props: []api.Prop{}}, {Topic: "a", Payload: "x", QoS: math.MaxInt, Until: math.MaxInt, Props: []api.Prop{{ID: -1}, {ID: -1}}},
		} {
			wantPut(t, l, m, m)
		}
	}
}

// P8.1
func TestPutAnywhere(t *testing.T) {
	b, d, f := full("b", "1"), full("d", "2"), full("f", "3")
	l := []api.Message{b, d, f}
	for name, at := range map[string]int{"a": 0, "$": 0, "A": 0, "/": 0, "a/z": 0, "b/": 1, "b ": 1, "bb": 1, "c": 1, "cz": 1, "d/d": 2, "e": 2, "f/": 3, "g": 3, "é": 3, "\U00010000": 3} {
		for _, m := range []api.Message{full(name, "new"), {Topic: name, Payload: "new"}} {
			wantPut(t, l, m, slices.Insert(clone(l), at, m)...)
		}
	}
	wantPut(t, l, full("b", "new"), full("b", "new"), d, f)
	wantPut(t, l, full("d", "new"), b, full("d", "new"), f)
	wantPut(t, l, full("f", "new"), b, d, full("f", "new"))
	// Nothing is left of the older one.
	wantPut(t, l, api.Message{Topic: "d", Payload: "x"}, b, api.Message{Topic: "d", Payload: "x"}, f)
}

// P8.1: what has no payload is not kept, whatever else it has.
func TestPutOfNoPayload(t *testing.T) {
	b, d, f := full("b", "1"), full("d", "2"), full("f", "3")
	l := []api.Message{b, d, f}
	for _, m := range []api.Message{full("", ""), {}} {
		of := func(name string) api.Message {
			m.Topic = name
			return m
		}
		wantPut(t, l, of("b"), d, f)
		wantPut(t, l, of("d"), b, f)
		wantPut(t, l, of("f"), b, d)
		for _, name := range []string{"a", "c", "e", "g", "b/", "/b", "B", "dd", "$", "é"} {
			wantPut(t, l, of(name), b, d, f)
			wantPut(t, nil, of(name))
			wantPut(t, []api.Message{}, of(name))
		}
		wantPut(t, []api.Message{b}, of("b"))
	}
}

// P8.1: ErrTopic, with a payload or without, in a list that is full or is not.
func TestPutRefusesNoName(t *testing.T) {
	for _, name := range noNames {
		for _, l := range [][]api.Message{nil, plain("a"), many(api.MaxRetained), many(api.MaxRetained + 1)} {
			wantNoPut(t, l, api.Message{Topic: name}, api.ErrTopic)
			wantNoPut(t, l, full(name, ""), api.ErrTopic)
			wantNoPut(t, l, full(name, "x"), api.ErrTopic)
		}
	}
}

// P8.1: one that is new and has a payload needs room, nothing else does.
func TestPutIntoFull(t *testing.T) {
	l := many(api.MaxRetained)
	almost := l[:api.MaxRetained-1]
	wantPut(t, almost, l[api.MaxRetained-1], l...)
	wantPut(t, almost, full("a", "x"), append([]api.Message{full("a", "x")}, almost...)...)
	wantPut(t, almost, full("t/00005/", "x"), slices.Insert(clone(almost), 6, full("t/00005/", "x"))...)
	for _, name := range []string{"a", "t", "t/00005/", "t/0000", "t/00064", "z"} {
		wantNoPut(t, l, full(name, "x"), api.ErrFull)
		wantNoPut(t, l, api.Message{Topic: name, Payload: "x"}, api.ErrFull)
		wantPut(t, l, full(name, ""), l...)
	}
	for i, m := range l {
		newer := api.Message{Topic: m.Topic, Payload: "newer"}
		other := clone(l)
		other[i] = newer
		wantPut(t, l, newer, other...)
		gone := slices.Delete(clone(l), i, i+1)
		less := wantPut(t, l, full(m.Topic, ""), gone...)
		more := wantPut(t, less, full("z", "x"), append(clone(gone), full("z", "x"))...)
		wantNoPut(t, more, m, api.ErrFull)
	}
}

// P8.1: one that expired has its place till it is gone.
func TestPutIntoFullOfExpired(t *testing.T) {
	l := many(api.MaxRetained)
	for i := range l {
		l[i].Until = 1
	}
	wantNoPut(t, l, full("a", "x"), api.ErrFull)
	left, e := Drop(l, 1)
	if e != nil {
		t.Fatal(e)
	}
	wantPut(t, left, full("a", "x"), full("a", "x"))
}

// P8.1, P8.2: a list of more than MaxRetained is one, but there is no room in it.
func TestMoreThanFull(t *testing.T) {
	l := many(api.MaxRetained + 2)
	wantNoPut(t, l, full("a", "x"), api.ErrFull)
	wantPut(t, l, full("a", ""), l...)
	wantPut(t, l, l[3], l...)
	wantPut(t, l, full(l[0].Topic, ""), l[1:]...)
	wantNoPut(t, l[1:], full("a", "x"), api.ErrFull)
	wantMatch(t, l, "#", 0, l...)
	wantDrop(t, l, 0, l...)
}

// P8.1, P8.2: ErrForm, ahead of every other error.
func TestRefusesNoList(t *testing.T) {
	for what, l := range noLists {
		t.Run(what, func(t *testing.T) {
			for _, m := range []api.Message{full("a", "x"), full("a", ""), full("b", "x"), {}, full("+", "x"), full("a/#", ""), full("z", "x")} {
				wantNoPut(t, l, m, api.ErrForm)
			}
			for _, f := range append([]string{"a", "#", "+", "z", "$a/#"}, noFilters...) {
				wantNoMatch(t, l, f, 0, api.ErrForm)
				wantNoMatch(t, l, f, math.MaxInt, api.ErrForm)
			}
			for _, now := range []int{math.MinInt, -1, 0, 1, math.MaxInt} {
				wantNoDrop(t, l, now, api.ErrForm)
			}
		})
	}
}

// P8.1, P8.2: a topic that is no name makes no list, at any place of it.
func TestRefusesListWithNoName(t *testing.T) {
	for _, name := range noNames {
		for _, beside := range [][]string{nil, {"a"}, {"\U0010ffff"}, {"!", "z"}, {"", "$", "a/", "b", "é"}} {
			l := plain(append([]string{name}, beside...)...)
			slices.SortFunc(l, func(a, b api.Message) int { return strings.Compare(a.Topic, b.Topic) })
			wantNoPut(t, l, full("a", "x"), api.ErrForm)
			wantNoPut(t, l, full(name, ""), api.ErrForm)
			wantNoMatch(t, l, "#", 0, api.ErrForm)
			wantNoMatch(t, l, name, 0, api.ErrForm)
			wantNoDrop(t, l, 0, api.ErrForm)
		}
	}
}

// P8.1, P8.2: of a list's messages only topics are looked at.
func TestListOfAnyMessages(t *testing.T) {
	l := []api.Message{
		{Topic: "$share/g/a", Payload: "x"}, {Topic: "/"}, {Topic: "A", QoS: 7, From: "\xff"}, {Topic: "a", Until: math.MaxInt, Props: []api.Prop{{ID: -1}}},
		{Topic: "a ", QoS: -1}, {Topic: "a/"}, {Topic: "a/b", Payload: "\xff"}, {Topic: "aa", Retain: true}, {Topic: "\uffff"}, {Topic: "\U00010000"},
	}
	wantPut(t, l, full("b", "x"), slices.Insert(clone(l), 8, full("b", "x"))...)
	wantPut(t, l, full("a/b", ""), slices.Delete(clone(l), 6, 7)...)
	wantPut(t, l, full("b", ""), l...)
	wantMatch(t, l, "#", 5, l[1:]...)
	wantMatch(t, l, "$share", 5)
	wantDrop(t, l, 5, l...)
}

// topics rise by their bytes.
var topics = []string{"$", "$SYS", "$SYS/", "$SYS/a", "$share", "$share/g/a", "/", "//", "/a", "A", "a", "a/", "a/$b", "a//", "a/b", "a/b/", "a/b/c", "aa", "b", "b/b", "é", "é/*"}

// matched: filters, and those of topics that match.
var matched = map[string][]string{
	"a":         {"a"},
	"c":         {},
	"a/b":       {"a/b"},
	"a/c":       {},
	"+":         {"A", "a", "aa", "b", "é"},
	"+/+":       {"/", "/a", "a/", "a/$b", "a/b", "b/b", "é/*"},
	"+/b":       {"a/b", "b/b"},
	"a/+":       {"a/", "a/$b", "a/b"},
	"a/+/c":     {"a/b/c"},
	"#":         topics[6:],
	"+/#":       topics[6:],
	"a/#":       {"a", "a/", "a/$b", "a//", "a/b", "a/b/", "a/b/c"},
	"a/b/#":     {"a/b", "a/b/", "a/b/c"},
	"/":         {"/"},
	"/+":        {"/", "/a"},
	"/#":        {"/", "//", "/a"},
	"+/":        {"/", "a/"},
	"$":         {"$"},
	"$/#":       {"$"},
	"$SYS":      {"$SYS"},
	"$SYS/#":    {"$SYS", "$SYS/", "$SYS/a"},
	"$SYS/+":    {"$SYS/", "$SYS/a"},
	"$share":    {"$share"},
	"$shared/#": {},
	"é/#":       {"é", "é/*"},
	"é/*":       {"é/*"},
}

// P8.2
func TestMatch(t *testing.T) {
	var l []api.Message
	for i, s := range topics {
		l = append(l, full(s, fmt.Sprint(i)))
	}
	for f, names := range matched {
		var want []api.Message
		for _, s := range names {
			want = append(want, l[slices.Index(topics, s)])
		}
		wantMatch(t, l, f, 0, want...)
		wantMatch(t, l, f, 99)
		wantMatch(t, nil, f, 0)
		wantMatch(t, []api.Message{}, f, 0)
	}
}

// P8.2: as many levels, and as many bytes, as there may be.
func TestMatchAtTheLimits(t *testing.T) {
	most, long := deep("a", api.MaxLevels), strings.Repeat("x", api.MaxText)
	l := []api.Message{full(most, "1"), full(long, "2")}
	wantMatch(t, l, most, 0, l[0])
	wantMatch(t, l, deep("+", api.MaxLevels), 0, l[0])
	wantMatch(t, l, deep("a", api.MaxLevels-1)+"/#", 0, l[0])
	wantMatch(t, l, long, 0, l[1])
	wantMatch(t, l, "+", 0, l[1])
	wantMatch(t, l, "#", 0, l...)
}

// P8.2: ErrTopic, of a list of nothing, too.
func TestMatchRefusesNoFilter(t *testing.T) {
	for _, f := range noFilters {
		for _, l := range [][]api.Message{nil, {}, plain("a"), {full("a", "x"), full("b", "x")}, many(api.MaxRetained)} {
			wantNoMatch(t, l, f, 0, api.ErrTopic)
			wantNoMatch(t, l, f, math.MaxInt, api.ErrTopic)
		}
	}
}

// P8.2: Until 0 or above now.
func TestExpiry(t *testing.T) {
	times := []int{math.MinInt, math.MinInt + 1, -2, -1, 0, 1, 2, 9, 10, 11, api.MaxTime, math.MaxInt - 1, math.MaxInt}
	var l []api.Message
	for i, until := range times {
		m := full(string(rune('a'+i)), "x")
		m.Until = until
		l = append(l, m)
	}
	for _, now := range times {
		var want []api.Message
		for _, m := range l {
			if m.Until == 0 || m.Until > now {
				want = append(want, m)
			}
		}
		wantDrop(t, l, now, want...)
		wantMatch(t, l, "#", now, want...)
		wantMatch(t, l, "+", now, want...)
		for i, m := range l {
			if m.Until == 0 || m.Until > now {
				wantMatch(t, l, m.Topic, now, l[i])
			} else {
				wantMatch(t, l, m.Topic, now)
			}
		}
	}
}

// P8.2: at just that time it has expired.
func TestExpiryAtTheEdge(t *testing.T) {
	for _, until := range []int{1, 2, 10, api.MaxTime} {
		m := full("a", "x")
		m.Until = until
		forever := full("b", "x")
		forever.Until = 0
		l := []api.Message{m, forever}
		for now, lives := range map[int]bool{0: true, until - 1: true, until: false, until + 1: false, math.MaxInt: false} {
			want := l
			if !lives {
				want = l[1:]
			}
			wantDrop(t, l, now, want...)
			wantMatch(t, l, "#", now, want...)
			wantMatch(t, l, "b", now, forever)
			if lives {
				wantMatch(t, l, "a", now, m)
			} else {
				wantMatch(t, l, "a", now)
			}
		}
	}
}

// P8.2
func TestDrop(t *testing.T) {
	for _, now := range []int{math.MinInt, 0, math.MaxInt} {
		wantDrop(t, nil, now)
		wantDrop(t, []api.Message{}, now)
		wantDrop(t, plain("$a", "a", "b"), now, plain("$a", "a", "b")...)
	}
	l := many(api.MaxRetained)
	for i := range l {
		l[i].Until = 10 * (i % 4)
	}
	for _, now := range []int{0, 9, 10, 19, 20, 29, 30, 31} {
		want := slices.DeleteFunc(clone(l), func(m api.Message) bool { return m.Until != 0 && m.Until <= now })
		wantDrop(t, l, now, want...)
		// What is left is a list, and there is nothing more to drop.
		wantDrop(t, want, now, want...)
	}
}

// model is what is kept, by topic.
type model map[string]api.Message

func (m model) list(want func(api.Message) bool) (l []api.Message) {
	for _, name := range slices.Sorted(maps.Keys(m)) {
		if want(m[name]) {
			l = append(l, m[name])
		}
	}
	return l
}

func all(api.Message) bool { return true }

// drawn is a message of one of some topics: most of them come again and again.
func drawn(r *rand.Rand, kinds int) api.Message {
	name := []string{"", "$", "a/", "b/", "/"}[r.Intn(5)] + fmt.Sprint(r.Intn(kinds))
	m := api.Message{Topic: name, QoS: r.Intn(3), Retain: r.Intn(2) == 0, Until: r.Intn(20)}
	if r.Intn(4) > 0 {
		m.Payload = fmt.Sprint(r.Int())
	}
	for range r.Intn(3) {
		m.Props = append(m.Props, api.Prop{ID: 0x26, Str: fmt.Sprint(r.Int())})
	}
	return m
}

// P8.3: one message a topic; put again it is the newer one.
func TestByChance(t *testing.T) {
	r := rand.New(rand.NewSource(8))
	for range 20 {
		var l []api.Message
		kept := model{}
		kinds := 1 + r.Intn(40)
		for range 300 {
			m := drawn(r, kinds)
			_, there := kept[m.Topic]
			switch {
			case m.Payload == "":
				delete(kept, m.Topic)
			case !there && len(kept) == api.MaxRetained:
				wantNoPut(t, l, m, api.ErrFull)
				continue
			default:
				kept[m.Topic] = m
			}
			l = wantPut(t, l, m, kept.list(all)...)
			now := r.Intn(20)
			lives := func(m api.Message) bool { return m.Until == 0 || m.Until > now }
			wantDrop(t, l, now, kept.list(lives)...)
			f := []string{"#", "+", "a/+", "b/#", "$" + fmt.Sprint(r.Intn(kinds)), "+/" + fmt.Sprint(r.Intn(kinds)), m.Topic}[r.Intn(7)]
			wantMatch(t, l, f, now, kept.list(func(m api.Message) bool {
				is, e := topic.Match(f, m.Topic)
				if e != nil {
					t.Fatal(e)
				}
				return is && lives(m)
			})...)
		}
	}
}

// P8.3: in whatever order they come.
func TestAnotherOrder(t *testing.T) {
	l := many(api.MaxRetained)
	r := rand.New(rand.NewSource(83))
	for range 20 {
		var k []api.Message
		for _, at := range r.Perm(len(l)) {
			for _, m := range []api.Message{full(l[at].Topic, "older"), l[at]} {
				var e error
				if k, e = Put(k, m); e != nil {
					t.Fatal(e)
				}
			}
		}
		answer(t, "put in another order", k, nil, l)
	}
}

// spare is a list, and properties within it, with room behind their ends, in which something stands.
func spare(names ...string) []api.Message {
	room := make([]api.Message, len(names)+3)
	for i := range room {
		room[i] = full("room", "room")
	}
	for i, s := range names {
		props := []api.Prop{{ID: 0x26, Str: s}, {ID: 0x26, Str: "room"}, {ID: 0x26, Str: "room"}}
		room[i] = api.Message{Topic: s, Payload: "x", Props: props[:1]}
	}
	return room[:len(names)]
}

// spoil writes into all that can be reached from l, room behind ends, too.
func spoil(l []api.Message) {
	for i := range l {
		props := l[i].Props[:cap(l[i].Props)]
		for j := range props {
			props[j] = api.Prop{ID: -9, Str: "spoilt"}
		}
	}
	l = l[:cap(l)]
	for i := range l {
		l[i] = api.Message{Topic: "spoilt"}
	}
}

// calls are calls that tell something of a, b, c and d, each in its own way; what is put has these properties.
func calls(l []api.Message, props []api.Prop) map[string]func() ([]api.Message, error) {
	putting := func(name, payload string) func() ([]api.Message, error) {
		return func() ([]api.Message, error) {
			return Put(l, api.Message{Topic: name, Payload: payload, Props: props})
		}
	}
	return map[string]func() ([]api.Message, error){
		"Put of a new one":         putting("bb", "x"),
		"Put of a new one ahead":   putting("$", "x"),
		"Put of a new one behind":  putting("z", "x"),
		"Put of one there":         putting("b", "x"),
		"Put of none there":        putting("bb", ""),
		"Put of none there behind": putting("z", ""),
		"Put of one gone":          putting("b", ""),
		"Put of the last one gone": putting("d", ""),
		"Match":                    func() ([]api.Message, error) { return Match(l, "#", 0) },
		"Match of one":             func() ([]api.Message, error) { return Match(l, "c", 0) },
		"Drop":                     func() ([]api.Message, error) { return Drop(l, 0) },
	}
}

// R2: what is handed in is not changed, nor what stands behind its end; what is told shares no memory with it, nor with another answer.
func TestToldIsNew(t *testing.T) {
	for what := range calls(nil, nil) {
		l, props := spare("a", "b", "c", "d"), spare("p")[0].Props
		room, roomOfProps := clone(l[:cap(l)]), slices.Clone(props[:cap(props)])
		first, e := calls(l, props)[what]()
		if e != nil || len(first) == 0 {
			t.Fatalf("%s: %s, %v", what, show(first), e)
		}
		second, _ := calls(l, props)[what]()
		want := clone(first)
		spoil(first)
		if !reflect.DeepEqual(l[:cap(l)], room) {
			t.Errorf("%s: whoever writes into what is told changes what was handed in", what)
		}
		if !slices.Equal(props[:cap(props)], roomOfProps) {
			t.Errorf("%s: whoever writes into what is told changes what was put", what)
		}
		for i := range l {
			if p := l[i].Props[:3]; p[0].Str != l[i].Topic || p[1].Str != "room" || p[2].Str != "room" {
				t.Errorf("%s: whoever writes into what is told changes properties that were handed in: %v", what, p)
			}
		}
		answer(t, what+", again", second, nil, want)
		spoil(l)
		spoil([]api.Message{{Props: props}})
		answer(t, what+", with what was handed in spoilt", second, nil, want)
	}
}

// R2: no two lists of one answer share memory, though what was handed in did.
func TestToldIsApart(t *testing.T) {
	props := []api.Prop{{ID: 0x26, Str: "k"}, {ID: 0x26, Str: "room"}}[:1]
	var l []api.Message
	for _, s := range []string{"a", "b", "c", "d"} {
		l = append(l, api.Message{Topic: s, Payload: "x", Props: props})
	}
	for what, call := range calls(l, props) {
		got, e := call()
		if e != nil {
			t.Fatal(what, e)
		}
		for i := range got {
			_ = append(got[i].Props, api.Prop{ID: i, Str: "more"})
			got[i].Props[0].Num = i
		}
		for i := range got {
			if got[i].Props[0].Num != i {
				t.Errorf("%s: properties of two messages are one", what)
			}
			if room := got[i].Props[:cap(got[i].Props)]; len(room) > 1 && room[1].ID != i {
				t.Errorf("%s: properties of two messages have one room", what)
			}
		}
	}
}
