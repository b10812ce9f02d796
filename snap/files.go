package snap

import (
	"errors"

	"dovecote/api"
	"dovecote/disk"
)

// Names of files. The vote and the snapshot have one each: setting the one need not write the other.
const (
	voteFile = "snap.vote"
	snapFile = "snap.data"
	newFile  = "snap.new" // what is being written: nobody reads it there
)

// load takes what the files tell.
func (s *Store) load() error {
	v, e := read(s.d, voteFile)
	if e != nil {
		return e
	}
	m, e := read(s.d, snapFile)
	if e != nil {
		return e
	}
	s.term, s.vote = v.vote()
	s.snap = m.snapshot()
	return nil
}

// read tells the record of a file: an empty one, if there is no such file.
func read(d *disk.Disk, name string) (record, error) {
	b, e := d.Read(name)
	if errors.Is(e, api.ErrNone) {
		return record{}, nil
	}
	if e != nil {
		return record{}, e
	}
	return parse(b), nil
}

// put makes r the record of that file. Behind an error of the disk nobody knows what is there, so that no later call may build on it.
func (s *Store) put(name string, r record) error {
	e := replace(s.d, name, r.bytes())
	s.lost = e != nil
	return e
}

// replace puts b, once they are safe, in the place of what that file was: all at once, so that a crash leaves the one or the other.
func replace(d *disk.Disk, name string, b []byte) error {
	// What a crash has left there would stand ahead of b.
	if e := d.Remove(newFile); e != nil && !errors.Is(e, api.ErrNone) {
		return e
	}
	if e := d.Append(newFile, b); e != nil {
		return e
	}
	if e := d.Sync(newFile); e != nil {
		return e
	}
	return d.Rename(newFile, name)
}
