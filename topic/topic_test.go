package topic

import (
	"errors"
	"math/rand"
	"regexp"
	"slices"
	"strings"
	"testing"

	"dovecote/api"
)

// noTexts: bytes that no text may hold.
var noTexts = []string{
	"\x00", "\x80", "\xff", "\xc0\x80", "\xc2", "\xe2\x82", "\xed\xa0\x80", "\xed\xbf\xbf", "\xf4\x90\x80\x80", "\xf8\x88\x80\x80\x80",
}

// names: some that are one, with empty levels at all places and signs that mean nothing there.
var names = []string{
	"a", "ab", "a/b", "a/b/c", "dove/cote/1",
	"/", "//", "///", "/a", "a/", "/a/", "//a", "a//", "a//b", "/a//b/",
	" ", "a b", "a/b ", " /a", "\x01", "\x7f", "*", "a/*", ".", "\\", "a\\/b", "é", "é/€/𐍈", "\ufeff", "\uffff", "\U0010ffff",
	"$", "$/", "/$", "$a", "$SYS", "$SYS/x", "a/$x", "a$", "$$", "$/$",
	"$shar", "$share", "$shared", "$shared/g/a", "$SHARE/g/a", "/$share/g/a", "a/$share/g/a", " $share/g/a", "$share\\/g", "share/g/a",
}

// sharedNames: names, too, though they begin as filters with a group do.
var sharedNames = []string{
	"$share/", "$share//", "$share/g", "$share/g/", "$share/g/a", "$share//a", "$share/g//", "$share/g/$share/h/a", "$share/$share/a",
}

// wild: filters that are no names.
var wild = []string{
	"+", "#", "+/#", "+/+", "+/+/#", "/+", "/#", "+/", "//#", "+//+", "//+",
	"a/+", "a/#", "+/a", "a/+/b", "a/+/#", "+/a/#", "a//#", "a/+/", "/+/", "/+/#", "é/+", "€/#",
	"$/#", "$/+", "$SYS/#", "$SYS/+", "$SYS/+/#", "$shared/#", "$shared/+", "+/$share/g", "/$share/+/#",
}

// bad: what is neither a name nor a filter.
var bad = []string{
	"", "a+", "+a", "++", "a#", "#a", "##", "+#", "#+", "a+b", "a#b", "é+", "#é", " +", "+ ", "# ", " #",
	"#/", "#/a", "#/#", "#/+", "/#/", "a/#/", "a/#/b", "+/#/", "a/#/#", "/#/a", "//#/",
	"a/b+", "a/+b", "a/b#", "a/#b", "a+/b", "+a/b", "a#/b", "#a/b", "a/++", "a/+#", "a/++/b", "a/##", "a/+b/c", "a/#b/c", "/a+/",
	"$+", "$#", "$SYS+", "$SYS#", "$SYS/#/x", "$share+", "$share#", "$share+/g/a", "$share#/g/a",
}

// noGroups: what begins as a filter with a group does, and is none.
var noGroups = []string{
	"$share/", "$share//", "$share///", "$share//a", "$share//#", "$share//+", "$share//$share/g/a",
	"$share/g", "$share/g/", "$share/gg/", "$share/+", "$share/#",
	"$share/+/a", "$share/#/a", "$share/g+/a", "$share/+g/a", "$share/g#/a", "$share/#g/a", "$share/g+g/a", "$share/g#g/#", "$share/+/", "$share/#/",
	"$share/g/a+", "$share/g/#/", "$share/g/#/a", "$share/g/a#", "$share/g/++", "$share/g/a/#/b", "$share/g/+a",
	"$share/g/$share/", "$share/g/$share/h", "$share/g/$share/h/a", "$share/g/$share/h/#", "$share/g/$share//", "$share/g/$share/+", "$share/g/$share/#", "$share/g/$share/+/#",
	"$share/$share/", "$share/$share",
}

// groups: some that may be.
var groups = []string{"g", "G", "gg", " ", "$", "$g", "$share", "$SYS", "é", "𐍈", "1", "\x01", "*", "g h", "\\"}

// deep is a text of n levels, each of them level.
func deep(level string, n int) string {
	return strings.Repeat(level+"/", n-1) + level
}

// long is a text of n bytes.
func long(n int) string { return strings.Repeat("x", n) }

// brief cuts what is too long to be shown.
func brief(s string) string {
	if len(s) > 80 {
		return s[:60] + ".." + s[len(s)-15:]
	}
	return s
}

func wantTopicError(t *testing.T, what string, e error) {
	t.Helper()
	var n api.Errno
	if !errors.As(e, &n) || n != api.ErrTopic {
		t.Errorf("%q: error %v, want %v", brief(what), e, api.ErrTopic)
	}
	var f *api.Fault
	if !errors.As(e, &f) || f.Layer != "topic" {
		t.Errorf("%q: error %v does not tell its layer", brief(what), e)
	}
	if errors.Is(e, api.ErrForm) || errors.Is(e, api.ErrLimit) {
		t.Errorf("%q: error %v has another number within it", brief(what), e)
	}
}

func wantName(t *testing.T, s string) {
	t.Helper()
	if e := Name(s); e != nil {
		t.Errorf("Name(%q): %v", brief(s), e)
	}
}

func wantNoName(t *testing.T, s string) {
	t.Helper()
	wantTopicError(t, s, Name(s))
}

// wantFilter: s is the filter f, with the group g (or none).
func wantFilter(t *testing.T, s, g, f string) {
	t.Helper()
	group, filter, e := Filter(s)
	if group != g || filter != f || e != nil {
		t.Errorf("Filter(%q): %q, %q, %v; want %q, %q", brief(s), group, brief(filter), e, g, brief(f))
	}
}

func wantNoFilter(t *testing.T, s string) {
	t.Helper()
	group, filter, e := Filter(s)
	wantTopicError(t, s, e)
	if group != "" || filter != "" {
		t.Errorf("Filter(%q) tells %q, %q beside its error", brief(s), group, brief(filter))
	}
}

func wantMatch(t *testing.T, f, s string, want bool) {
	t.Helper()
	if is, e := Match(f, s); is != want || e != nil {
		t.Errorf("Match(%q, %q): %v, %v; want %v", brief(f), brief(s), is, e, want)
	}
}

func wantRefused(t *testing.T, f, s string) {
	t.Helper()
	is, e := Match(f, s)
	wantTopicError(t, f+" and "+s, e)
	if is {
		t.Errorf("Match(%q, %q) tells true beside its error", brief(f), brief(s))
	}
}

// P6.1
func TestNames(t *testing.T) {
	for _, s := range append(slices.Clone(names), sharedNames...) {
		wantName(t, s)
	}
}

// P6.1
func TestNoNames(t *testing.T) {
	for _, s := range append(slices.Clone(wild), bad...) {
		wantNoName(t, s)
	}
	for _, s := range []string{"$share/g/#", "$share/g/+", "$share/g/a/+/b", "$share/+/a", "$share/#", "$share/g+/a"} {
		wantNoName(t, s)
	}
}

// P6.1: a + or # at each place of a name.
func TestSignsInNames(t *testing.T) {
	for _, s := range append(slices.Clone(names), sharedNames...) {
		for i := 0; i <= len(s); i++ {
			wantNoName(t, s[:i]+"+"+s[i:])
			wantNoName(t, s[:i]+"#"+s[i:])
		}
	}
}

// P6.1
func TestFilters(t *testing.T) {
	for _, s := range append(slices.Clone(names), wild...) {
		wantFilter(t, s, "", s)
	}
}

// P6.1
func TestNoFilters(t *testing.T) {
	for _, s := range append(slices.Clone(bad), noGroups...) {
		wantNoFilter(t, s)
	}
}

// P6.1
func TestFiltersWithGroups(t *testing.T) {
	for _, g := range groups {
		for _, f := range append(slices.Clone(names), wild...) {
			wantFilter(t, "$share/"+g+"/"+f, g, f)
		}
		for _, f := range append(slices.Clone(bad), noGroups...) {
			wantNoFilter(t, "$share/"+g+"/"+f)
		}
		for _, f := range sharedNames {
			wantNoFilter(t, "$share/"+g+"/"+f)
		}
	}
}

// P6.1: as names they are what they are, with a group or not.
func TestFiltersWithGroupsAsNames(t *testing.T) {
	for _, g := range groups {
		for _, f := range append(slices.Clone(names), sharedNames...) {
			wantName(t, "$share/"+g+"/"+f)
		}
		for _, f := range wild {
			wantNoName(t, "$share/"+g+"/"+f)
		}
	}
}

// P6.1: a group with + or # at each place of it.
func TestSignsInGroups(t *testing.T) {
	for _, g := range append([]string{""}, groups...) {
		for i := 0; i <= len(g); i++ {
			for _, sign := range []string{"+", "#"} {
				wantNoFilter(t, "$share/"+g[:i]+sign+g[i:]+"/a")
				wantNoFilter(t, "$share/"+g[:i]+sign+g[i:]+"/#")
			}
		}
	}
}

// P6.1: levels of all kinds, at each number of them around MaxLevels.
func TestLevels(t *testing.T) {
	for _, level := range []string{"", "a", "é", "a b", "$"} {
		for n := 1; n <= api.MaxLevels+3; n++ {
			s := deep(level, n)
			if s == "" {
				continue
			}
			if n <= api.MaxLevels {
				wantName(t, s)
				wantFilter(t, s, "", s)
				wantFilter(t, "$share/g/"+s, "g", s)
			} else {
				wantNoName(t, s)
				wantNoFilter(t, s)
				wantNoFilter(t, "$share/g/"+s)
			}
		}
	}
	wantNoName(t, strings.Repeat("/", api.MaxText))
	wantNoFilter(t, strings.Repeat("/", api.MaxText))
}

// P6.1
func TestLevelsWithSigns(t *testing.T) {
	for _, s := range []string{deep("+", api.MaxLevels), deep("a", api.MaxLevels-1) + "/#", deep("+", api.MaxLevels-1) + "/#", deep("", api.MaxLevels-1) + "/#"} {
		wantFilter(t, s, "", s)
		wantFilter(t, "$share/g/"+s, "g", s)
		wantNoName(t, s)
		for _, more := range []string{"/" + s, "a/" + s, "+/" + s} {
			wantNoFilter(t, more)
			wantNoFilter(t, "$share/g/"+more)
		}
	}
	for _, s := range []string{deep("+", api.MaxLevels) + "/", deep("a", api.MaxLevels) + "/#", deep("a", api.MaxLevels) + "/+"} {
		wantNoFilter(t, s)
		wantNoFilter(t, "$share/g/"+s)
	}
}

// P6.1: empty levels count, at the beginning and at the end, too.
func TestEmptyLevelsCount(t *testing.T) {
	most := deep("a", api.MaxLevels)
	for _, s := range []string{"/" + most[2:], most[:len(most)-2] + "/", "//" + most[4:], most[:len(most)-1], most[1:]} {
		wantName(t, s)
		wantFilter(t, s, "", s)
		wantFilter(t, "$share/g/"+s, "g", s)
	}
	for _, s := range []string{"/" + most, most + "/", "/" + most[2:] + "/", "//" + most[2:]} {
		wantNoName(t, s)
		wantNoFilter(t, s)
		wantNoFilter(t, "$share/g/"+s)
	}
}

// P6.1: of a name that begins with $share/ all levels count, of a filter those behind its group.
func TestLevelsBehindGroup(t *testing.T) {
	wantName(t, "$share/g/"+deep("a", api.MaxLevels-2))
	wantNoName(t, "$share/g/"+deep("a", api.MaxLevels-1))
	wantNoName(t, "$share/g/"+deep("a", api.MaxLevels))
	wantFilter(t, "$share/g/"+deep("a", api.MaxLevels-1), "g", deep("a", api.MaxLevels-1))
	wantFilter(t, "$share/g/"+deep("a", api.MaxLevels), "g", deep("a", api.MaxLevels))
	wantNoFilter(t, "$share/g/"+deep("a", api.MaxLevels+1))
}

// P6.1: at the beginning, at the end and between, in a group, too.
func TestNoTexts(t *testing.T) {
	for _, b := range noTexts {
		for _, s := range []string{b, b + "a", "a" + b, "a/" + b, b + "/a", "a/" + b + "/b", "/" + b, b + "/", "$" + b, "a/b" + b + "c"} {
			wantNoName(t, s)
			wantNoFilter(t, s)
			wantNoFilter(t, s+"/#")
			wantNoFilter(t, "+/"+s)
			wantNoFilter(t, "$share/g/"+s)
			wantNoFilter(t, "$share/g/+/"+s+"/#")
			wantRefused(t, s, "a")
			wantRefused(t, "#", s)
			wantRefused(t, s, s)
		}
		for _, g := range []string{b, "g" + b, b + "g"} {
			wantNoFilter(t, "$share/"+g+"/a")
			wantNoFilter(t, "$share/"+g+"/#")
			wantNoName(t, "$share/"+g+"/a")
		}
	}
}

// P6.1: a text has at most MaxText bytes, all of it.
func TestLength(t *testing.T) {
	most := long(api.MaxText)
	wantName(t, most)
	wantFilter(t, most, "", most)
	wantFilter(t, most[2:]+"/#", "", most[2:]+"/#")
	wantFilter(t, "$share/g/"+most[9:], "g", most[9:])
	wantFilter(t, "$share/"+most[9:]+"/a", most[9:], "a")
	wantNoName(t, most+"x")
	wantNoName(t, most+most)
	wantNoFilter(t, most+"x")
	wantNoFilter(t, most[1:]+"/#")
	wantNoFilter(t, "$share/g/"+most[8:])
	wantNoFilter(t, "$share/"+most[8:]+"/a")
	wantMatch(t, most, most, true)
	wantMatch(t, "+", most, true)
	wantMatch(t, most, most[1:], false)
	wantRefused(t, most+"x", "x")
	wantRefused(t, "#", most+"x")
}

// P6.1: nothing is kept: asked again, in another order, all is the same.
func TestAgain(t *testing.T) {
	for range 3 {
		wantFilter(t, "$share/g/a/#", "g", "a/#")
		wantNoFilter(t, "$share/g/a#")
		wantNoName(t, "a/#")
		wantName(t, "a")
		wantFilter(t, "a", "", "a")
		wantMatch(t, "a/#", "a", true)
		wantRefused(t, "a#", "a")
	}
}

// matched: filters, with names that match and names that do not.
var matched = []struct {
	f   string
	yes []string
	no  []string
}{
	{"a", []string{"a"}, []string{"b", "A", "ab", "aa", "a/", "/a", "a/b", "/", "a ", "$a"}},
	{"a/b", []string{"a/b"}, []string{"a", "b", "a/", "a/c", "b/b", "a/b/", "a/b/c", "/a/b", "a//b", "ab", "a/B"}},
	{"/", []string{"/"}, []string{"a", "//", "a/", "/a", "$"}},
	{"//", []string{"//"}, []string{"/", "///", "a//", "/a/", "//a"}},
	{"/a", []string{"/a"}, []string{"a", "a/", "/", "//a", "/a/", "/b"}},
	{"a/", []string{"a/"}, []string{"a", "/a", "a//", "a/a"}},
	{"a//b", []string{"a//b"}, []string{"a/b", "a/x/b", "a///b"}},
	// One level by +, an empty one, too.
	{"+", []string{"a", "ab", "é", " ", "a$"}, []string{"/", "a/", "/a", "a/b", "$", "$a", "$SYS"}},
	{"+/+", []string{"/", "a/", "/a", "a/b", "a/$", "/$x"}, []string{"a", "//", "a/b/c", "$/", "$SYS/x", "$a/b"}},
	{"/+", []string{"/", "/a", "/$a"}, []string{"a", "a/", "//", "/a/b", "$/a"}},
	{"+/", []string{"/", "a/"}, []string{"a", "/a", "a/b", "//", "$/", "$SYS/"}},
	{"a/+", []string{"a/", "a/b", "a/$x", "a/a"}, []string{"a", "b/a", "a/b/c", "a//", "/b", "/", "ab"}},
	{"+/b", []string{"a/b", "/b", "b/b"}, []string{"b", "a/c", "a/b/c", "a/", "$a/b", "$/b"}},
	{"a/+/b", []string{"a/x/b", "a//b", "a/$/b"}, []string{"a/b", "a/x/y/b", "a/x", "a/x/c", "c/x/b", "a/x/b/"}},
	{"a/+/+", []string{"a//", "a/b/c", "a//c"}, []string{"a", "a/b", "a/", "a/b/c/d", "b/c/d"}},
	// All levels that are left by #, none, too.
	{"#", []string{"a", "/", "//", "a/b", "/a", "a/", "a/b/c", "a$", "/$", "a/$SYS", "é"}, []string{"$", "$a", "$/", "$SYS", "$SYS/x", "$share", "$share/g/a", "$$"}},
	{"/#", []string{"/", "//", "/a", "/a/b", "/$a"}, []string{"a", "a/", "a/b", "$", "$/a"}},
	{"//#", []string{"/", "//", "//a", "///"}, []string{"a", "/a", "a/", "/a/"}},
	{"a/#", []string{"a", "a/", "a//", "a/b", "a/b/c", "a/a", "a/$x"}, []string{"ab", "b", "/a", "b/a", "/", "A", "$a", "ab/c"}},
	{"a/b/#", []string{"a/b", "a/b/", "a/b/c", "a/b/c/d"}, []string{"a", "a/", "a/c", "a/bc", "b", "b/b", "a//b"}},
	{"a//#", []string{"a/", "a//", "a//b"}, []string{"a", "a/b", "a/b/"}},
	// Both.
	{"+/#", []string{"a", "/", "a/", "/a", "a/b", "a/b/c"}, []string{"$", "$a", "$SYS/x"}},
	{"+/+/#", []string{"/", "a/", "a/b", "a/b/c"}, []string{"a", "$/a", "$SYS/a/b"}},
	{"a/+/#", []string{"a/", "a/b", "a/b/c", "a//"}, []string{"a", "b/c", "ab/c"}},
	{"+/a/#", []string{"/a", "b/a", "b/a/c", "a/a/"}, []string{"a", "a/b", "a/b/a", "$/a", "$b/a/c"}},
	// What begins with $, asked for.
	{"$", []string{"$"}, []string{"a", "$a", "$/", "/$"}},
	{"$/#", []string{"$", "$/", "$/a", "$/$"}, []string{"$a", "a", "/", "a/$"}},
	{"$SYS/#", []string{"$SYS", "$SYS/", "$SYS/x", "$SYS/x/y", "$SYS/$x"}, []string{"$SY", "$SYSX", "SYS", "SYS/x", "a/$SYS", "$sys/x"}},
	{"$SYS/+", []string{"$SYS/", "$SYS/x", "$SYS/$"}, []string{"$SYS", "$SYS/x/y", "$sys/x"}},
	{"$SYS/+/#", []string{"$SYS/x", "$SYS/", "$SYS/x/y"}, []string{"$SYS", "$SYZ/x"}},
	{"a/$x/#", []string{"a/$x", "a/$x/y"}, []string{"a", "a/x", "$x", "a/$xy"}},
	{"/$/+", []string{"/$/", "/$/a"}, []string{"/$", "$/a", "/$/a/b"}},
	{"$share", []string{"$share"}, []string{"$share/", "$share/g/a", "share", "$shared"}},
	{"$shared/#", []string{"$shared", "$shared/g/a"}, []string{"$share", "$share/g/a"}},
	// Signs that mean nothing there.
	{"*", []string{"*"}, []string{"a", "**"}},
	{".", []string{"."}, []string{"a"}},
	{"é/+", []string{"é/€", "é/"}, []string{"e/a", "è/a", "é"}},
}

// P6.2
func TestMatch(t *testing.T) {
	for _, c := range matched {
		for _, s := range c.yes {
			wantMatch(t, c.f, s, true)
		}
		for _, s := range c.no {
			wantMatch(t, c.f, s, false)
		}
	}
}

// P6.2: with as many levels as there may be.
func TestMatchOfManyLevels(t *testing.T) {
	most := deep("a", api.MaxLevels)
	less := deep("a", api.MaxLevels-1)
	for f, yes := range map[string][2]bool{ // whether most matches, and less
		most:                              {true, false},
		less:                              {false, true},
		deep("+", api.MaxLevels):          {true, false},
		deep("+", api.MaxLevels-1):        {false, true},
		less + "/#":                       {true, true},
		less + "/+":                       {true, false},
		less[2:] + "/#":                   {true, true},
		deep("+", api.MaxLevels-1) + "/#": {true, true},
		"+/" + less[2:] + "/+":            {true, false},
		"a/#":                             {true, true},
		"b/#":                             {false, false},
		less[:len(less)-1] + "b/#":        {false, false},
		less + "/b":                       {false, false},
	} {
		wantMatch(t, f, most, yes[0])
		wantMatch(t, f, less, yes[1])
	}
	wantMatch(t, deep("+", api.MaxLevels), deep("", api.MaxLevels), true)
	wantMatch(t, deep("", api.MaxLevels-1)+"/#", deep("", api.MaxLevels), true)
	wantRefused(t, most+"/#", most)
	wantRefused(t, "#", most+"/")
	wantRefused(t, "/"+most, most)
}

// P6.2
func TestMatchRefusesGroups(t *testing.T) {
	for _, g := range groups {
		for _, f := range append(slices.Clone(names), wild...) {
			for _, s := range []string{"a", "a/b", "$share/g/a", "$share/" + g + "/" + "a", "+", ""} {
				wantRefused(t, "$share/"+g+"/"+f, s)
			}
		}
	}
}

// P6.2
func TestMatchRefusesWhatIsNone(t *testing.T) {
	for _, b := range append(slices.Clone(bad), noGroups...) {
		for _, s := range []string{"a", "a/b", "/", "$SYS", b} {
			wantRefused(t, b, s)
		}
	}
	for _, s := range append(slices.Clone(bad), wild...) {
		for _, f := range []string{"a", "#", "+", "+/#", s} {
			wantRefused(t, f, s)
		}
	}
}

// P6.3: whatever begins with $share/ is no filter without a group.
func TestNameMatchesItself(t *testing.T) {
	for _, s := range append(slices.Clone(names), deep("a", api.MaxLevels), deep("", api.MaxLevels), long(api.MaxText)) {
		wantMatch(t, s, s, true)
	}
	for _, s := range sharedNames {
		wantRefused(t, s, s)
	}
}

// P6.3
func TestRestMatchesAllThatIsNotHidden(t *testing.T) {
	for _, s := range append(append(slices.Clone(names), sharedNames...), deep("a", api.MaxLevels), deep("", api.MaxLevels), deep("$", api.MaxLevels), long(api.MaxText)) {
		wantMatch(t, "#", s, s[0] != '$')
	}
}

// words goes through all texts of at most most of the pieces.
func words(pieces []string, most int, each func(s string)) {
	var walk func(s string, left int)
	walk = func(s string, left int) {
		each(s)
		if left == 0 {
			return
		}
		for _, p := range pieces {
			walk(s+p, left-1)
		}
	}
	walk("", most)
}

var (
	nameForm   = regexp.MustCompile(`^[^+#]+$`)
	filterForm = regexp.MustCompile(`^(?:(?:[^/+#]*|\+)/)*(?:[^/+#]*|\+|#)$`)
	groupForm  = regexp.MustCompile(`^\$share/([^/+#]+)/(.*)$`)
)

// modelName tells by a regular expression whether s, a short text, is a name.
func modelName(s string) bool { return nameForm.MatchString(s) }

// modelFilter tells likewise what a short text is as a filter.
func modelFilter(s string) (group, filter string, ok bool) {
	if !strings.HasPrefix(s, "$share/") {
		return "", s, s != "" && filterForm.MatchString(s)
	}
	m := groupForm.FindStringSubmatch(s)
	if m == nil || strings.HasPrefix(m[2], "$share/") {
		return "", "", false
	}
	return m[1], m[2], m[2] != "" && filterForm.MatchString(m[2])
}

// modelMatch tells how a filter without a group matches: by a regular expression.
func modelMatch(f string) func(s string) bool {
	body := strings.ReplaceAll(regexp.QuoteMeta(f), `\+`, `[^/]*`)
	if before, all := strings.CutSuffix(body, "#"); all {
		body = strings.TrimSuffix(before, "/") + `(?:/.*)?`
	}
	if f == "#" {
		body = `.*`
	}
	form := regexp.MustCompile(`^` + body + `$`)
	wild := f[0] == '+' || f[0] == '#'
	return func(s string) bool { return form.MatchString(s) && !(wild && s[0] == '$') }
}

// P6.1
func TestAllShortTexts(t *testing.T) {
	words([]string{"a", "/", "+", "#", "$", "$share/", "$share/g/"}, 6, func(s string) {
		if strings.Count(s, "/") >= api.MaxLevels {
			return
		}
		if modelName(s) {
			wantName(t, s)
		} else {
			wantNoName(t, s)
		}
		if g, f, ok := modelFilter(s); ok {
			wantFilter(t, s, g, f)
		} else {
			wantNoFilter(t, s)
		}
	})
}

// P6.2, P6.3
func TestMatchOfAllShortTexts(t *testing.T) {
	var some []string
	words([]string{"a", "b", "/", "$"}, 4, func(s string) {
		if s != "" {
			some = append(some, s)
		}
	})
	words([]string{"a", "b", "/", "+", "#", "$"}, 4, func(f string) {
		if _, _, ok := modelFilter(f); !ok {
			wantRefused(t, f, "a")
			return
		}
		want := modelMatch(f)
		for _, s := range some {
			wantMatch(t, f, s, want(s))
		}
	})
}

// drawn is a name, and a filter made out of it: some levels are +, and, in half of them, # stands for those that are left.
func drawn(r *rand.Rand) (name, filter []string) {
	levels := []string{"a", "", "b", "ab", "$", "é", "x y"}
	for range 1 + r.Intn(api.MaxLevels-1) {
		name = append(name, levels[r.Intn(len(levels))])
	}
	name = append(name, "a") // else it may be empty
	for _, level := range name {
		if r.Intn(3) == 0 {
			level = "+"
		}
		filter = append(filter, level)
	}
	if r.Intn(2) == 0 {
		filter = append(filter[:r.Intn(len(filter))], "#")
	}
	return name, filter
}

// P6.2: what a filter was made of matches it; with one of its levels changed that is no + or # it does not.
func TestMatchByChance(t *testing.T) {
	r := rand.New(rand.NewSource(6))
	for range 20000 {
		name, filter := drawn(r)
		s := strings.Join(name, "/")
		wild := filter[0] == "+" || filter[0] == "#"
		wantMatch(t, strings.Join(filter, "/"), s, !wild || s[0] != '$')
		at := r.Intn(len(filter))
		if filter[at] != "+" && filter[at] != "#" {
			filter[at] += "z"
			wantMatch(t, strings.Join(filter, "/"), s, false)
		}
	}
}
