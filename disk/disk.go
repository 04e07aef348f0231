// Package disk is layer 1: files in memory, and what a crash leaves of them. See shared/doc/01-disk.md.
package disk

import (
	"slices"

	"weir/api"
)

// Disk is files in memory. Its zero value is up and has nothing.
type Disk struct {
	files []*file
	down  bool
	fuse  fuse
}

// New: P1.1.
func New() *Disk { return &Disk{} }

// Make: P1.2.
func (d *Disk) Make(name string) api.Errno {
	e := first(
		d.lost(),
		when(!isName(name), api.ErrArg),
		when(d.find(name) != nil, api.ErrTwice),
		when(len(d.row()) >= api.MaxFiles, api.ErrFull),
	)
	if e == api.OK {
		d.files = append(d.files, &file{name: name})
	}
	return e
}

// Append: P1.3.
func (d *Disk) Append(name string, b []byte) api.Errno {
	f := d.find(name)
	e := first(d.lacks(f), when(f.size()+len(b) > api.MaxFile, api.ErrLong))
	if e != api.OK {
		return e
	}
	f.put(b)
	return d.burn()
}

// Sync: P1.3.
func (d *Disk) Sync(name string) api.Errno {
	f := d.find(name)
	if e := d.lacks(f); e != api.OK {
		return e
	}
	if e := d.burn(); e != api.OK {
		return e
	}
	f.sure = f.size()
	return api.OK
}

// Read: P1.3.
func (d *Disk) Read(name string) ([]byte, api.Errno) {
	f := d.find(name)
	if e := d.lacks(f); e != api.OK {
		return nil, e
	}
	return f.read(), api.OK
}

// Sure: P1.3.
func (d *Disk) Sure(name string) (int, api.Errno) {
	f := d.find(name)
	if e := d.lacks(f); e != api.OK {
		return 0, e
	}
	return f.sure, api.OK
}

// Cut: P1.3.
func (d *Disk) Cut(name string, n int) api.Errno {
	f := d.find(name)
	e := first(d.lacks(f), when(n < 0 || n > f.size(), api.ErrArg))
	if e == api.OK {
		f.cut(n)
	}
	return e
}

// Remove: P1.2.
func (d *Disk) Remove(name string) api.Errno {
	e := d.lacks(d.find(name))
	if e == api.OK {
		d.drop(name)
	}
	return e
}

// Rename: P1.2.
func (d *Disk) Rename(from, to string) api.Errno {
	f := d.find(from)
	e := first(d.lacks(f), when(!isName(to), api.ErrArg))
	if e == api.OK && from != to {
		d.drop(to)
		f.name = to
	}
	return e
}

// Names: P1.2.
func (d *Disk) Names() []string {
	if d.lost() != api.OK {
		return nil
	}
	var l []string
	for _, f := range d.files {
		l = append(l, f.name)
	}
	slices.Sort(l)
	return l
}

// Copy: P1.4.
func (d *Disk) Copy() *Disk {
	if d == nil {
		return nil
	}
	c := &Disk{down: d.down, fuse: d.fuse.twin()}
	for _, f := range d.files {
		c.files = append(c.files, f.twin())
	}
	return c
}

// row is the disk's files; no disk has none.
func (d *Disk) row() []*file {
	if d == nil {
		return nil
	}
	return d.files
}

// find is the file of a name, nil if it has none.
func (d *Disk) find(name string) *file {
	l := d.row()
	if k := where(l, name, (*file).called); k >= 0 {
		return l[k]
	}
	return nil
}

// drop takes the file of a name away, if it has one.
func (d *Disk) drop(name string) {
	if k := where(d.files, name, (*file).called); k >= 0 {
		d.files = slices.Delete(d.files, k, k+1)
	}
}

// isName: may a file be called so?
func isName(name string) bool { return len(name) >= 1 && len(name) <= api.MaxName }

// where tells at which place of a row the first one of a name stands, -1 if none does.
func where[T any](row []T, name string, called func(T) string) int {
	for k, x := range row {
		if called(x) == name {
			return k
		}
	}
	return -1
}
