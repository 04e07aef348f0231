package wal

import (
	"slices"

	"weir/api"
)

// found is what is wrong with a log's files: which go, from the least number on; of which the end goes, and how many bytes.
type found struct {
	gone []string
	torn segment
	cut  int
}

// find reads the log's files: what they tell is held, what is wrong with them is told.
func (w *Wal) find() (found, api.Errno) {
	var f found
	w.next = 1
	last := 0
	all := numbered(w.d.Names(), w.name)
	k := 0
files:
	for ; k < len(all); k++ {
		if k > 0 && all[k] != after(all[k-1]) {
			break
		}
		s := segment{digits: all[k]}
		b, e := w.d.Read(w.file(s))
		if e != api.OK {
			return found{}, e
		}
		s.rows = whole(b, last)
		if len(s.rows) == 0 && k > 0 {
			break
		}
		w.segs = append(w.segs, s)
		if n := len(s.rows); n > 0 {
			last = s.rows[n-1].index
			w.next = last + 1
		}
		if f.cut = len(b) - s.size(); f.cut > 0 || len(s.rows) == 0 {
			f.torn = s
			k++
			break files
		}
	}
	for _, digits := range all[k:] {
		f.gone = append(f.gone, w.file(segment{digits: digits}))
	}
	return f, api.OK
}

// mends is the steps that take away what is wrong: files from the greatest number on, then a file's end.
func (w *Wal) mends(f found) []func() api.Errno {
	var l []func() api.Errno
	for _, name := range slices.Backward(f.gone) {
		l = append(l, func() api.Errno { return w.d.Remove(name) })
	}
	if f.cut > 0 {
		l = append(l, func() api.Errno { return w.d.Cut(w.file(f.torn), f.torn.size()) })
	}
	return l
}

// begins makes the first segment, if there is none.
func (w *Wal) begins() api.Errno {
	if len(w.segs) > 0 {
		return api.OK
	}
	s := segment{digits: "0"}
	w.segs = []segment{s}
	return w.d.Make(w.file(s))
}

// syncs makes all sure: what was read may have been late.
func (w *Wal) syncs() api.Errno {
	for _, s := range w.segs {
		if e := w.d.Sync(w.file(s)); e != api.OK {
			return e
		}
	}
	return api.OK
}
