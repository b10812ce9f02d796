package wal

import (
	"errors"
	"slices"
	"strconv"
	"strings"

	"dovecote/api"
)

const (
	prefix = "wal."
	// spare is how much longer than needed the files of a log may be, in any case: a short one is not to be written anew with each change.
	spare = 1 << 15
)

// place is the end of a generation: of the files that tell a log from its base on, part by part. They only grow: no crash can mix what they were with what they are.
type place struct {
	gen  int // 0: there is none
	part int
	size int    // of that part
	all  int    // of all parts
	sum  uint32 // of all parts
}

// name is the file's.
func (p place) name() string {
	return prefix + strconv.Itoa(p.gen) + "." + strconv.Itoa(p.part)
}

// pass goes behind a frame.
func (p *place) pass(f []byte) {
	p.size += len(f)
	p.all += len(f)
	p.sum = sumOf(f)
}

// generationOf tells the generation to which the file of that name belongs, 0: it is none of a log's.
func generationOf(name string) int {
	gen, part, _ := strings.Cut(strings.TrimPrefix(name, prefix), ".")
	g, e1 := strconv.Atoi(gen)
	p, e2 := strconv.Atoi(part)
	if e1 != nil || e2 != nil || g < 1 || p < 0 || (place{gen: g, part: p}).name() != name {
		return 0
	}
	return g
}

// generationsOf are those of these files, one a file, the newest first.
func generationsOf(names []string) []int {
	var l []int
	for _, name := range names {
		if g := generationOf(name); g > 0 {
			l = append(l, g)
		}
	}
	slices.Sort(l)
	slices.Reverse(l)
	return l
}

// load finds the newest generation that is whole: an older one is one that was being taken away, a newer one was being written.
func (w *Wal) load() error {
	names, e := w.d.List()
	if e != nil {
		return e
	}
	files := generationsOf(names)
	for _, gen := range slices.Compact(slices.Clone(files)) {
		r, e := w.read(gen, names)
		if e != nil {
			return e
		}
		if r.isWhole {
			w.log, w.at = r.log, r.at
			w.untidy = !r.isClean || len(files) > r.at.part+1
			return nil
		}
	}
	w.untidy = len(files) > 0
	return nil
}

// read follows the parts of a generation as far as they are whole.
func (w *Wal) read(gen int, names []string) (reader, error) {
	r := reader{at: place{gen: gen}}
	for p := r.at; slices.Contains(names, p.name()); p.part++ {
		b, e := w.d.Read(p.name())
		if e != nil {
			return reader{}, e
		}
		r.at.part, r.at.size = p.part, 0
		if e := r.follow(b); !errors.Is(e, errEnd) {
			return r, nil
		}
	}
	r.isClean = r.due == 0
	return r, nil
}

// lay puts onto the disk what makes the log next: more behind what is there, or all of it anew.
func (w *Wal) lay(next api.Log, more []record) error {
	if w.at.gen == 0 || w.untidy || w.at.all+sizeOf(more) > 2*wholeSize(next)+spare {
		return w.renew(next)
	}
	at, e := w.write(w.at, more)
	w.at = at
	return e
}

// renew begins a generation that tells next. The one ahead of it goes only when all of this one is safe.
func (w *Wal) renew(next api.Log) error {
	if e := w.tidy(); e != nil {
		return e
	}
	at, e := w.write(place{gen: w.at.gen + 1}, wholeRecords(next))
	if e != nil {
		return e
	}
	w.at = at
	return w.leave()
}

// tidy takes away what a crash left beside the generation: else each one would leave some more, till the disk is full.
func (w *Wal) tidy() error {
	if !w.untidy {
		return nil
	}
	w.untidy = false
	return w.leave()
}

// leave makes the generation safe, and takes away all other files of a log.
func (w *Wal) leave() error {
	if e := w.secure(); e != nil {
		return e
	}
	names, e := w.d.List()
	if e != nil {
		return e
	}
	for _, name := range names {
		if g := generationOf(name); g == 0 || g == w.at.gen {
			continue
		}
		if e := w.d.Remove(name); e != nil {
			return e
		}
	}
	return nil
}

// secure makes the last part safe; those ahead of it are. Without a generation there is nothing to be made safe, if only the disk still works.
func (w *Wal) secure() error {
	if w.at.gen == 0 {
		_, e := w.d.List()
		return e
	}
	return w.d.Sync(w.at.name())
}

// write puts the frames of rs, which are one change, behind p, and tells the end then. A part is safe ahead of the next one: no crash keeps a later one without it.
func (w *Wal) write(p place, rs []record) (place, error) {
	var b []byte
	for i, r := range rs {
		r.due = len(rs) - 1 - i
		f := frame(p.sum, r)
		if p.size+len(f) > api.MaxFile {
			if e := w.finish(p, b); e != nil {
				return p, e
			}
			p.part++
			p.size, b = 0, nil
		}
		b = append(b, f...)
		p.pass(f)
	}
	return p, w.d.Append(p.name(), b)
}

// finish puts b as the last bytes into the part at p.
func (w *Wal) finish(p place, b []byte) error {
	if e := w.d.Append(p.name(), b); e != nil {
		return e
	}
	return w.d.Sync(p.name())
}
