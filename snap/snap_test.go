package snap

import (
	"errors"
	"fmt"
	"math"
	"math/rand"
	"slices"
	"strings"
	"testing"

	"dovecote/api"
	"dovecote/disk"
)

// most is how many bytes a snapshot may have.
const most = api.MaxFile / 2

const empty = "0 0, 0 0 [] 0"

// want: an error of that number, 0: none; it has no other number within it, and tells its layer.
func want(t *testing.T, what string, e error, n api.Errno) {
	t.Helper()
	if e == nil {
		if n != 0 {
			t.Errorf("%s: no error, want number %d", what, n)
		}
		return
	}
	var got api.Errno
	if !errors.As(e, &got) || got != n {
		t.Errorf("%s: error %v, want number %d", what, e, n)
	}
	for other := api.ErrForm; other <= api.ErrFull; other++ {
		if other != n && errors.Is(e, other) {
			t.Errorf("%s: error %v has %v within it, too", what, e, other)
		}
	}
	var f *api.Fault
	if !errors.As(e, &f) || f.Layer != "snap" {
		t.Errorf("%s: error %v does not tell its layer", what, e)
	}
}

// done: calls that are to be done.
func done(t *testing.T, errs ...error) {
	t.Helper()
	for i, e := range errs {
		want(t, fmt.Sprint("call ", i), e, 0)
	}
}

// kept is all that a store keeps.
type kept struct {
	term, vote int
	snap       api.Rpc
}

// String is unlike for unlike ones, and short. What a snapshot has no use for is told only where it is there.
func (k kept) String() string {
	m := k.snap
	s := fmt.Sprintf("%d %d, %d %d %v %d", k.term, k.vote, m.Index, m.LogTerm, m.Members, len(m.Data))
	if m.Kind != 0 || m.From != 0 || m.To != 0 || m.Term != 0 || m.Commit != 0 || m.Ok || len(m.Entries) > 0 {
		s += fmt.Sprintf(" and %d %d %d %d %d %v %v", m.Kind, m.From, m.To, m.Term, m.Commit, m.Ok, m.Entries)
	}
	if len(m.Data) > 0 && len(m.Data) < 20 {
		return s + fmt.Sprintf(" %q", m.Data)
	}
	if len(m.Data) > 0 {
		h := uint(0)
		for i := range len(m.Data) {
			h = h*31 + uint(m.Data[i])
		}
		s += fmt.Sprintf(" %x", h)
	}
	return s
}

func show(s *Store) string {
	term, vote := s.Vote()
	return kept{term, vote, s.Snapshot()}.String()
}

func tells(t *testing.T, s *Store, what string) {
	t.Helper()
	if got := show(s); got != what {
		t.Errorf("store: %s, want %s", got, what)
	}
}

func newDisk(t *testing.T, files ...api.File) *disk.Disk {
	t.Helper()
	d, e := disk.New(files)
	if e != nil {
		t.Fatal(e)
	}
	return d
}

func opened(t *testing.T, d *disk.Disk) *Store {
	t.Helper()
	s, e := Open(d)
	if e != nil || s == nil {
		t.Fatalf("Open: %v", e)
	}
	return s
}

func fresh(t *testing.T) (*Store, *disk.Disk) {
	t.Helper()
	d := newDisk(t)
	return opened(t, d), d
}

// filled is a store with a vote and a snapshot, and what it tells.
func filled(t *testing.T) (*Store, *disk.Disk, string) {
	t.Helper()
	s, d := fresh(t)
	done(t, s.SetVote(3, 1), s.SetSnapshot(api.Rpc{Index: 9, LogTerm: 2, Members: []int{1, 3, 7}, Data: "abc"}))
	return s, d, `3 1, 9 2 [1 3 7] 3 "abc"`
}

// after is the disk as a crash leaves it.
func after(t *testing.T, d *disk.Disk, picks ...int) *disk.Disk {
	t.Helper()
	return newDisk(t, d.Crash(picks)...)
}

func somePicks() [][]int {
	return [][]int{nil, {1, 1, 1, 1}, {2, 2, 2, 2}, {5, 5, 5, 5}, {2 + 3*7, 2 + 3*2}, {-1, -4}, {0, 1}, {1, 0}}
}

// stays: what the store tells is told by what is opened over the disk as it is, and over what any crash leaves of it.
func stays(t *testing.T, s *Store, d *disk.Disk) {
	t.Helper()
	was := show(s)
	tells(t, opened(t, d), was)
	for _, picks := range somePicks() {
		found := after(t, d, picks...)
		tells(t, opened(t, found), was)
		tells(t, opened(t, after(t, found, picks...)), was)
	}
}

// TestExample: the chapter's: P12.3.
func TestExample(t *testing.T) {
	s, d := fresh(t)
	done(t, s.SetVote(3, 1))
	for p := range 20 {
		term, vote := opened(t, after(t, d, p, p)).Vote()
		if term != 3 || vote != 1 {
			t.Errorf("pick %d: %d and %d", p, term, vote)
		}
	}
}

// TestOpen: P12.1: nothing there, and wrong disks.
func TestOpen(t *testing.T) {
	s, e := Open(nil)
	want(t, "Open of nil", e, api.ErrForm)
	if s != nil {
		t.Error("Open of nil: a store")
	}
	others := []api.File{{Name: "sna", Data: []byte("x")}, {Name: "wal.1.0", Data: []byte("y")}}
	for _, d := range []*disk.Disk{newDisk(t), newDisk(t, others...), {}} {
		tells(t, opened(t, d), empty)
	}
	_, full, _ := filled(t)
	for i, d := range []*disk.Disk{newDisk(t), newDisk(t, others...), full} {
		d.Off(0)
		s, e := Open(d)
		want(t, fmt.Sprint("Open without power ", i), e, api.ErrPower)
		if s != nil {
			t.Errorf("Open without power %d: a store", i)
		}
	}
}

// TestNothing: P12.1: without files all is 0 and empty, each field.
func TestNothing(t *testing.T) {
	s, _ := fresh(t)
	if term, vote := s.Vote(); term != 0 || vote != 0 {
		t.Errorf("Vote: %d and %d", term, vote)
	}
	m := s.Snapshot()
	if len(m.Members) != 0 || m.Data != "" || m.Index != 0 || m.LogTerm != 0 || m.Kind != 0 || m.From != 0 || m.To != 0 || m.Term != 0 || m.Commit != 0 || m.Ok || len(m.Entries) != 0 {
		t.Errorf("Snapshot: %v", m)
	}
}

// TestOpenLeft: P12.1: what was left is told, whatever it was.
func TestOpenLeft(t *testing.T) {
	datas := []string{"", "a", "\n", "\n\n1 2 \n", "0\n", " ", "\x00", "\xff\xfe", strings.Repeat("\x00", 700), "7 7 \nabc", strings.Repeat("long ", 900)}
	for i, data := range datas {
		for mask := range 1 << api.MaxNodes {
			if mask > 3 && i > 2 && (mask+i)%13 > 0 {
				continue
			}
			s, d := fresh(t)
			m := api.Rpc{Index: i * mask, LogTerm: i, Data: data}
			for n := range api.MaxNodes {
				if mask>>n&1 != 0 {
					m.Members = append(m.Members, n+1)
				}
			}
			done(t, s.SetSnapshot(m))
			tells(t, s, kept{0, 0, m}.String())
			stays(t, s, d)
		}
	}
}

// TestTells: P12.1, P12.2: what else is in the message that is handed in is not kept.
func TestTells(t *testing.T) {
	s, d := fresh(t)
	done(t, s.SetSnapshot(api.Rpc{
		Kind: api.AskSnap, From: 1, To: 2, Term: 33, Index: 9, LogTerm: 2, Commit: 44, Ok: true,
		Entries: []api.Entry{{Index: 10, Term: 2}}, Members: []int{2, 5}, Data: "abc",
	}))
	for _, s := range []*Store{s, opened(t, d), opened(t, after(t, d))} {
		m := s.Snapshot()
		if m.Index != 9 || m.LogTerm != 2 || !slices.Equal(m.Members, []int{2, 5}) || m.Data != "abc" {
			t.Errorf("Snapshot: %v", m)
		}
		tells(t, s, `0 0, 9 2 [2 5] 3 "abc"`)
	}
	// Fields that are not kept may be anything.
	done(t, s.SetSnapshot(api.Rpc{Kind: -1, From: -1, To: 99, Term: -1, Commit: -1, Entries: make([]api.Entry, 1000)}))
	tells(t, s, empty)
}

// TestSetVote: P12.2: each vote that may be, the edges, and those that may not.
func TestSetVote(t *testing.T) {
	s, d, _ := filled(t)
	for _, term := range []int{0, 1, 2, 1 << 31, 1 << 40, math.MaxInt} {
		for vote := range api.MaxNodes + 1 {
			done(t, s.SetVote(term, vote))
			tells(t, s, fmt.Sprintf(`%d %d, 9 2 [1 3 7] 3 "abc"`, term, vote))
			stays(t, s, d)
		}
	}
	was := show(s)
	for _, c := range [][2]int{{-1, 0}, {-1, 1}, {math.MinInt, 1}, {4, -1}, {4, math.MinInt}, {4, api.MaxNodes + 1}, {0, api.MaxNodes + 1}, {4, 256 + 1}, {4, math.MaxInt}, {-1, -1}, {-1, api.MaxNodes + 1}} {
		calls := d.Calls()
		want(t, fmt.Sprint("SetVote of ", c), s.SetVote(c[0], c[1]), api.ErrForm)
		tells(t, s, was)
		if d.Calls() != calls {
			t.Errorf("SetVote of %v: the disk is written to", c)
		}
	}
	stays(t, s, d)
	// What was told ErrForm hinders nothing, nor does a term that falls.
	done(t, s.SetVote(1, 2), s.SetVote(0, 0))
	tells(t, s, `0 0, 9 2 [1 3 7] 3 "abc"`)
	stays(t, s, d)
}

// TestSetSnapshotForm: P12.2: snapshots that may not be.
func TestSetSnapshotForm(t *testing.T) {
	s, d, was := filled(t)
	for what, m := range map[string]api.Rpc{
		"Index below 0":        {Index: -1, Members: []int{1}},
		"Index lowest":         {Index: math.MinInt},
		"LogTerm below 0":      {Index: 9, LogTerm: -1, Members: []int{1}},
		"LogTerm lowest":       {LogTerm: math.MinInt},
		"Members fall":         {Index: 9, Members: []int{2, 1}},
		"Members fall at last": {Index: 9, Members: []int{1, 3, 5, 4}},
		"Members twice":        {Index: 9, Members: []int{2, 2}},
		"Members twice later":  {Index: 9, Members: []int{1, 2, 3, 3}},
		"a member 0":           {Index: 9, Members: []int{0}},
		"a member 0 first":     {Index: 9, Members: []int{0, 1}},
		"a member below 0":     {Index: 9, Members: []int{-1, 1}},
		"a member lowest":      {Index: 9, Members: []int{math.MinInt}},
		"a member too great":   {Index: 9, Members: []int{api.MaxNodes + 1}},
		"a last one too great": {Index: 9, Members: []int{1, 2, 3, 4, 5, 6, 7, 8}},
		"a member greatest":    {Index: 9, Members: []int{1, math.MaxInt}},
		"a member of 257":      {Index: 9, Members: []int{257}},
		"many Members":         {Index: 9, Members: make([]int, 100000)},
		"Data too long":        {Index: 9, Members: []int{1}, Data: strings.Repeat("x", most+1)},
		"Data as a file":       {Index: 9, Members: []int{1}, Data: strings.Repeat("x", api.MaxFile)},
		"Data as two":          {Index: 9, Members: []int{1}, Data: strings.Repeat("x", 2*api.MaxFile)},
		"all":                  {Index: -1, LogTerm: -1, Members: []int{9}, Data: strings.Repeat("x", most+1)},
	} {
		calls := d.Calls()
		want(t, what, s.SetSnapshot(m), api.ErrForm)
		tells(t, s, was)
		if d.Calls() != calls {
			t.Errorf("%s: the disk is written to", what)
		}
	}
	stays(t, s, d)
}

// TestSetSnapshot: P12.2: the edges of what may be.
func TestSetSnapshot(t *testing.T) {
	s, d, _ := filled(t)
	for _, m := range []api.Rpc{
		{},
		{Index: 1},
		{LogTerm: 1},
		{Index: math.MaxInt, LogTerm: math.MaxInt, Members: []int{1}},
		{Index: 1, Members: []int{api.MaxNodes}},
		{Index: 1, Members: []int{1, 2, 3, 4, 5, 6, 7}, Data: "x"},
		{Index: 1, Members: []int{}, Data: "without members"},
		{Index: 5, LogTerm: 9, Members: []int{1, 7}, Data: strings.Repeat("x", most-1)},
		{Index: math.MaxInt, LogTerm: math.MaxInt, Members: []int{1, 2, 3, 4, 5, 6, 7}, Data: strings.Repeat("\x00", most)},
		{Index: 2, LogTerm: 1, Data: "\n"},
		{},
	} {
		done(t, s.SetSnapshot(m))
		tells(t, s, kept{3, 1, m}.String())
		stays(t, s, d)
	}
}

// TestApart: P12.2: a vote does not touch the snapshot, nor a snapshot the vote.
func TestApart(t *testing.T) {
	one, two := api.Rpc{Index: 1, Members: []int{1}, Data: "one"}, api.Rpc{Index: 2, LogTerm: 8, Members: []int{2}}
	s, d := fresh(t)
	var now kept
	check := func(e error) {
		t.Helper()
		done(t, e)
		tells(t, s, now.String())
		stays(t, s, d)
	}
	now.term, now.vote = 4, 7
	check(s.SetVote(4, 7))
	now.snap = one
	check(s.SetSnapshot(one))
	now.term, now.vote = 5, 0
	check(s.SetVote(5, 0))
	now.snap = two
	check(s.SetSnapshot(two))
	now.snap = api.Rpc{}
	check(s.SetSnapshot(api.Rpc{}))
	now.snap = one
	check(s.SetSnapshot(one))
	now.term = 0
	check(s.SetVote(0, 0))
	// Another order, and each behind an Open.
	s, d = fresh(t)
	now = kept{snap: two}
	check(s.SetSnapshot(two))
	s = opened(t, d)
	now.term, now.vote = 1, 1
	check(s.SetVote(1, 1))
	s = opened(t, d)
	now.snap = one
	check(s.SetSnapshot(one))
}

// TestCopies: R2: what was handed in is the caller's, what is told is the reader's.
func TestCopies(t *testing.T) {
	s, d := fresh(t)
	members := make([]int, 3, 8)
	copy(members, []int{1, 3, 7})
	m := api.Rpc{Index: 9, LogTerm: 2, Members: members, Data: "abc"}
	done(t, s.SetSnapshot(m))
	was := show(s)
	if !slices.Equal(members[:8], []int{1, 3, 7, 0, 0, 0, 0, 0}) {
		t.Errorf("what was handed in is changed: %d", members[:8])
	}
	members[0], m.Index = 2, 77
	tells(t, s, was)
	for _, s := range []*Store{s, opened(t, d)} {
		a, b := s.Snapshot(), s.Snapshot()
		a.Members[0], a.Index, a.Data = 2, 77, "spoilt"
		a.Members = append(a.Members[:1], 5, 6, 7)
		for i := range cap(a.Members) {
			a.Members[:cap(a.Members)][i] = 6
		}
		if !slices.Equal(b.Members, []int{1, 3, 7}) {
			t.Errorf("what was told is changed: %d", b.Members)
		}
		_ = append(b.Members, 99)
		tells(t, s, was)
		told := s.Snapshot()
		done(t, s.SetSnapshot(api.Rpc{Members: []int{4, 5, 6}}), s.SetSnapshot(told))
		if got := (kept{0, 0, told}).String(); got != was {
			t.Errorf("what was told is changed: %s", got)
		}
		stays(t, s, d)
	}
}

// TestFiles: all files have names that begin with snap; others are not touched; Open changes nothing.
func TestFiles(t *testing.T) {
	others := []api.File{{Name: "a", Data: []byte("x")}, {Name: "sna", Data: []byte("y")}, {Name: "wal.1.0", Data: []byte("z")}}
	d := newDisk(t, others...)
	s := opened(t, d)
	for k := range 50 {
		done(t, s.SetVote(k, k%8), s.SetSnapshot(api.Rpc{Index: k, Data: strings.Repeat("x", 1000*k)}))
	}
	var found []api.File
	for _, f := range d.Crash(nil) {
		if !strings.HasPrefix(f.Name, "snap") {
			found = append(found, f)
		}
	}
	if fmt.Sprint(found) != fmt.Sprint(others) {
		t.Errorf("files: %v, want %v", found, others)
	}
	calls := d.Calls()
	opened(t, d)
	if d.Calls() != calls {
		t.Errorf("Open: %d calls that may change the disk", d.Calls()-calls)
	}
	for at := range 10 {
		d := newDisk(t)
		s := opened(t, d)
		d.Off(at)
		_, _ = s.SetVote(1, 1), s.SetSnapshot(api.Rpc{Index: 1})
		for _, f := range d.Crash(nil) {
			if !strings.HasPrefix(f.Name, "snap") {
				t.Errorf("file %s, if the power goes at call %d", f.Name, at)
			}
		}
	}
}

// TestObjects: R2: stores over disks of their own have nothing in common.
func TestObjects(t *testing.T) {
	a, _, was := filled(t)
	b, d, _ := filled(t)
	done(t, b.SetVote(8, 7), b.SetSnapshot(api.Rpc{}))
	tells(t, a, was)
	tells(t, b, "8 7, 0 0 [] 0")
	d.Off(0)
	want(t, "SetVote", b.SetVote(1, 1), api.ErrPower)
	done(t, a.SetVote(3, 1))
	tells(t, a, was)
}

// TestForeign: P12.1: bytes that no store has left are neither a vote nor a snapshot.
func TestForeign(t *testing.T) {
	s, d, was := filled(t)
	good := d.Crash(nil)
	check := func(what string, i int, data []byte) {
		t.Helper()
		files := slices.Clone(good)
		files[i].Data = data
		found := newDisk(t, files...)
		s := opened(t, found)
		if left := show(s); left != `3 1, 0 0 [] 0` && left != `0 0, 9 2 [1 3 7] 3 "abc"` {
			t.Errorf("%s of %s: %s", what, files[i].Name, left)
		}
		done(t, s.SetVote(3, 1), s.SetSnapshot(api.Rpc{Index: 9, LogTerm: 2, Members: []int{1, 3, 7}, Data: "abc"}))
		tells(t, s, was)
		stays(t, s, found)
	}
	for i, f := range good {
		for k := range f.Data {
			for bit := range 8 {
				b := slices.Clone(f.Data)
				b[k] ^= 1 << bit
				check(fmt.Sprintf("bit %d of byte %d", bit, k), i, b)
			}
			check(fmt.Sprintf("%d bytes", k), i, f.Data[:k])
			check(fmt.Sprintf("%d bytes and noughts", k), i, append(slices.Clone(f.Data[:k]), make([]byte, len(f.Data)-k)...))
		}
		check("more bytes", i, append(slices.Clone(f.Data), 'x'))
		check("twice", i, append(slices.Clone(f.Data), f.Data...))
		for _, b := range []string{"", "0", "0\n", "\n", "\n\n", "rubbish", strings.Repeat("\x00", 500), strings.Repeat("\xff", api.MaxFile)} {
			check(fmt.Sprintf("%.9q", b), i, []byte(b))
		}
	}
	stays(t, s, d)
	for _, name := range []string{"snap", "snap.", "snap.new", "snap.1", "snap.votes", "snap-vote", "snapdragon"} {
		for _, data := range [][]byte{nil, []byte("rubbish"), make([]byte, api.MaxFile), good[0].Data, good[1].Data} {
			l := append(slices.Clone(good), api.File{Name: name, Data: data})
			slices.SortFunc(l, func(a, b api.File) int { return strings.Compare(a.Name, b.Name) })
			d := newDisk(t, l...)
			s := opened(t, d)
			tells(t, s, was)
			done(t, s.SetVote(4, 2), s.SetSnapshot(api.Rpc{Index: 5}))
			tells(t, s, "4 2, 5 0 [] 0")
			stays(t, s, d)
		}
	}
}

// TestRecords: what has a sum, but no store can have written there.
func TestRecords(t *testing.T) {
	for i, c := range []struct {
		name string
		r    record
		want string
	}{
		{voteFile, record{}, empty},
		{voteFile, record{numbers: []int{4}}, empty},
		{voteFile, record{numbers: []int{4, 2}}, "4 2, 0 0 [] 0"},
		{voteFile, record{numbers: []int{4, 2, 1}}, empty},
		{voteFile, record{numbers: []int{-1, 2}}, empty},
		{voteFile, record{numbers: []int{4, -1}}, empty},
		{voteFile, record{numbers: []int{4, api.MaxNodes + 1}}, empty},
		{voteFile, record{numbers: []int{4, 2}, data: "x"}, empty},
		{snapFile, record{}, empty},
		{snapFile, record{data: "abc"}, empty},
		{snapFile, record{[]int{4}, "abc"}, empty},
		{snapFile, record{[]int{4, 2}, "abc"}, `0 0, 4 2 [] 3 "abc"`},
		{snapFile, record{[]int{-4, 2}, "abc"}, empty},
		{snapFile, record{[]int{4, -2}, "abc"}, empty},
		{snapFile, record{[]int{4, 2, 1, 1}, "abc"}, empty},
		{snapFile, record{[]int{4, 2, 8}, "abc"}, empty},
		{snapFile, record{[]int{4, 2, 0}, "abc"}, empty},
		{snapFile, record{[]int{4, 2}, strings.Repeat("x", most+1)}, empty},
	} {
		d := newDisk(t, api.File{Name: c.name, Data: c.r.bytes()})
		s := opened(t, d)
		if got := show(s); got != c.want {
			t.Errorf("%d: %s, want %s", i, got, c.want)
		}
		stays(t, s, d)
	}
	for _, line := range []string{"x 1", "4 x", "4 2x", "4 99999999999999999999", "4,2"} {
		for _, name := range []string{voteFile, snapFile} {
			b := []byte(line + " \n")
			d := newDisk(t, api.File{Name: name, Data: []byte(sumText(b) + "\n" + string(b))})
			tells(t, opened(t, d), empty)
		}
	}
}

// everyCall are all calls that tell an error, with what may be and with what may not.
func everyCall(s *Store) map[string]func() error {
	return map[string]func() error{
		"SetVote":               func() error { return s.SetVote(7, 7) },
		"SetVote of the same":   func() error { return s.SetVote(s.Vote()) },
		"SetVote of wrong":      func() error { return s.SetVote(-1, 1) },
		"SetSnapshot":           func() error { return s.SetSnapshot(api.Rpc{Index: 7, Members: []int{7}, Data: "new"}) },
		"SetSnapshot of same":   func() error { return s.SetSnapshot(s.Snapshot()) },
		"SetSnapshot of wrong":  func() error { return s.SetSnapshot(api.Rpc{Index: -1}) },
		"SetSnapshot too great": func() error { return s.SetSnapshot(api.Rpc{Data: strings.Repeat("x", most+1)}) },
	}
}

func wrongOnes() []string {
	return []string{"SetVote of wrong", "SetSnapshot of wrong", "SetSnapshot too great"}
}

// TestPower: P12.2, P11.3: ErrForm ahead of an error of the disk that was not met yet; behind one all is ErrPower, and what is told as it was.
func TestPower(t *testing.T) {
	for _, isFilled := range []bool{false, true} {
		for what := range everyCall(&Store{}) {
			s, d := fresh(t)
			if isFilled {
				s, d, _ = filled(t)
			}
			was := show(s)
			d.Off(0)
			for _, wrong := range wrongOnes() {
				want(t, wrong+" ahead of "+what, everyCall(s)[wrong](), api.ErrForm)
				tells(t, s, was)
			}
			if slices.Contains(wrongOnes(), what) {
				continue
			}
			for range 2 {
				want(t, what, everyCall(s)[what](), api.ErrPower)
				tells(t, s, was)
				for other, f := range everyCall(s) {
					want(t, other+" behind "+what, f(), api.ErrPower)
					tells(t, s, was)
				}
			}
		}
	}
}

// TestPowerAt: P12.2, P11.3: likewise, at whichever call of the disk the power goes.
func TestPowerAt(t *testing.T) {
	for _, what := range []string{"SetVote", "SetVote of the same", "SetSnapshot", "SetSnapshot of same"} {
		times := 0
		for at := 1; ; at++ {
			s, d, was := filled(t)
			d.Off(at)
			e := everyCall(s)[what]()
			if e == nil {
				break
			}
			times++
			if !errors.Is(e, api.ErrPower) || times > 100 {
				t.Fatalf("%s: %v at call %d", what, e, at)
			}
			want(t, what, e, api.ErrPower)
			tells(t, s, was)
			for other, f := range everyCall(s) {
				want(t, other+" behind "+what, f(), api.ErrPower)
				tells(t, s, was)
			}
		}
		if times < 3 {
			t.Errorf("%s: %d calls of the disk: no new file that is synced and renamed", what, times)
		}
	}
}

// TestNotOpened: R1: a store that was not opened has no disk.
func TestNotOpened(t *testing.T) {
	for what, f := range everyCall(&Store{}) {
		want(t, what, f(), api.ErrPower)
	}
	tells(t, &Store{}, empty)
}

// TestDiskErrors: P12.2: another error of the disk is told as it is, once.
func TestDiskErrors(t *testing.T) {
	for _, what := range []string{"SetVote", "SetSnapshot"} {
		_, full, was := filled(t)
		for i := 0; ; i++ {
			if full.Append(fmt.Sprint("f", i), []byte("x")) != nil {
				break
			}
		}
		s := opened(t, full)
		want(t, what+" on a full disk", everyCall(s)[what](), api.ErrFull)
		tells(t, s, was)
		for other, f := range everyCall(s) {
			want(t, other+" behind it", f(), api.ErrPower)
			tells(t, s, was)
		}
		for range 2 {
			tells(t, opened(t, full), was)
			full = after(t, full, 1, 1, 1)
		}
		// With room again another store goes on.
		if e := full.Remove("f0"); e != nil {
			t.Fatal(e)
		}
		s = opened(t, full)
		done(t, everyCall(s)[what]())
		stays(t, s, full)
	}
}

// step is a call, with what is kept behind it.
type step struct {
	name string
	call func(s *Store) error
	next kept
}

// steps are n of them by chance, behind what is kept.
func steps(r *rand.Rand, k kept, n, size int) (l []step) {
	for range n {
		if r.Intn(2) == 0 {
			term, vote := r.Intn(1000), r.Intn(api.MaxNodes+1)
			k.term, k.vote = term, vote
			l = append(l, step{fmt.Sprint("SetVote ", term), func(s *Store) error { return s.SetVote(term, vote) }, k})
			continue
		}
		m := api.Rpc{Index: r.Intn(1000), LogTerm: r.Intn(1000), Data: strings.Repeat(string(rune('a'+r.Intn(3))), r.Intn(size+1))}
		if r.Intn(3) == 0 {
			m.Data = strings.Repeat("\x00", r.Intn(size+1))
		}
		for n := 1; n <= api.MaxNodes; n++ {
			if r.Intn(2) == 0 {
				m.Members = append(m.Members, n)
			}
		}
		k.snap = m
		l = append(l, step{fmt.Sprint("SetSnapshot ", m.Index), func(s *Store) error { return s.SetSnapshot(m) }, k})
	}
	return l
}

// follow does the steps till the power goes, and tells what may be found then, and whether it went.
func follow(t *testing.T, s *Store, l []step) (can []string, lost bool) {
	t.Helper()
	for _, c := range l {
		was := show(s)
		if e := c.call(s); e != nil {
			if !errors.Is(e, api.ErrPower) {
				t.Fatalf("%s: %v", c.name, e)
			}
			want(t, c.name, e, api.ErrPower)
			tells(t, s, was)
			want(t, "SetVote behind it", s.SetVote(1, 1), api.ErrPower)
			want(t, "SetSnapshot behind it", s.SetSnapshot(api.Rpc{}), api.ErrPower)
			tells(t, s, was)
			return []string{was, c.next.String()}, true
		}
		tells(t, s, c.next.String())
	}
	return []string{show(s)}, false
}

// holds: a crash leaves what can be, and what is opened is the same behind every later crash, in Open, too; tells the disk.
func holds(t *testing.T, d *disk.Disk, can []string, picks []int) *disk.Disk {
	t.Helper()
	d = after(t, d, picks...)
	was := show(opened(t, d))
	if !slices.Contains(can, was) {
		t.Fatalf("picks %d: %s is none of %q", picks, was, can)
	}
	for n := range 4 {
		again := after(t, d)
		again.Off(n)
		s, e := Open(again)
		if e == nil {
			tells(t, s, was)
		} else if want(t, "Open", e, api.ErrPower); s != nil {
			t.Errorf("picks %d: a store beside an error", picks)
		}
		again = after(t, again, picks...)
		tells(t, opened(t, again), was)
		d = again
	}
	return d
}

func stateOf(s *Store) kept {
	term, vote := s.Vote()
	return kept{term, vote, s.Snapshot()}
}

// TestCrashes: P12.3: the power goes at each call of the disk, is back, and goes again.
func TestCrashes(t *testing.T) {
	for seed := range int64(10) {
		r := rand.New(rand.NewSource(seed))
		script := steps(r, kept{}, 12, 200)
		for at := 1; ; at++ {
			s, d := fresh(t)
			d.Off(at)
			can, lost := follow(t, s, script)
			if at > 1000 {
				t.Fatalf("seed %d: the power goes at call %d", seed, at)
			}
			for p := range 30 {
				again := holds(t, d, can, []int{p, r.Intn(50), r.Intn(50)})
				for range 3 {
					s := opened(t, again)
					more := steps(r, stateOf(s), 3, 200)
					again.Off(1 + r.Intn(12))
					can, _ := follow(t, s, more)
					again = holds(t, again, can, []int{r.Intn(60), r.Intn(50), r.Intn(50)})
				}
			}
			if !lost {
				break
			}
		}
	}
}

// TestCrashesGreat: P12.3: likewise with the greatest snapshots.
func TestCrashesGreat(t *testing.T) {
	old, next := api.Rpc{Index: 1, Members: []int{1}, Data: strings.Repeat("o", most)}, api.Rpc{Index: 2, Members: []int{2}, Data: strings.Repeat("n", most)}
	s, base := fresh(t)
	done(t, s.SetVote(3, 1), s.SetSnapshot(old))
	can := []string{kept{3, 1, old}.String(), kept{3, 1, next}.String()}
	for at := 1; ; at++ {
		d := after(t, base)
		s := opened(t, d)
		d.Off(at)
		e := s.SetSnapshot(next)
		if e == nil {
			can = can[1:]
		}
		for _, p := range []int{0, 1, 2, 5, 2 + 3*1000, 2 + 3*16384, 2 + 3*16385, -1} {
			found := holds(t, d, can, []int{p, p})
			// What is left of it hinders no later one.
			s := opened(t, found)
			done(t, s.SetSnapshot(next), s.SetSnapshot(old), s.SetVote(4, 4))
			tells(t, s, kept{4, 4, old}.String())
			stays(t, s, found)
		}
		if e == nil {
			break
		}
		if !errors.Is(e, api.ErrPower) || at > 100 {
			t.Fatalf("SetSnapshot: %v at call %d", e, at)
		}
	}
}

// TestCrashesAgain: P12.3: powers that go again and again fill no disk.
func TestCrashesAgain(t *testing.T) {
	_, d, _ := filled(t)
	for round := range 200 {
		s := opened(t, d)
		k := stateOf(s)
		d.Off(1 + round%9)
		can, _ := follow(t, s, steps(rand.New(rand.NewSource(int64(round))), k, 9, 100000))
		d = holds(t, d, can, []int{1 + round%2, 1 + round})
	}
	if names, e := d.List(); e != nil || len(names) > 4 {
		t.Errorf("files: %q, %v", names, e)
	}
}
