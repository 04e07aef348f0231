package rows

import "weir/api"

// Put: P9.3.
func Put(r api.Rows, index, term int, l []api.Entry) (out api.Rows, same int, ok bool, e api.Errno) {
	switch {
	case Check(r) != api.OK:
		return api.Rows{}, 0, false, api.ErrRows
	case len(l) > api.MaxBatch || Check(api.Rows{Base: index, Term: term, Entries: l}) != api.OK:
		return api.Rows{}, 0, false, api.ErrArg
	}
	l, index, same, ok = fit(r, index, term, l)
	if ok {
		out, e = lay(r, index, l)
	} else {
		out, e = join(r, len(r.Entries), nil)
	}
	if e != api.OK {
		return api.Rows{}, 0, false, e
	}
	return out, same, ok, api.OK
}

// fit tells whether l fits behind index: what of it is to be put, behind which index, and up to where both are the same then; or a hint.
func fit(r api.Rows, index, first int, l []api.Entry) ([]api.Entry, int, int, bool) {
	switch ahead := r.Base - index; {
	case index > end(r):
		return nil, 0, end(r), false
	case ahead > len(l):
		return nil, 0, r.Base, false
	case ahead > 0: // what Base stands on is committed: there is nothing to be compared
		l, index = l[ahead:], r.Base
	case term(r, index) != first:
		return nil, 0, max(index-1, r.Base), false
	}
	return l, index, index + len(l), true
}

// lay puts l behind index, from the first difference on: what is the same already stays, with all behind it.
func lay(r api.Rows, index int, l []api.Entry) (api.Rows, api.Errno) {
	at := index - r.Base
	k := differ(r.Entries[at:], l, func(a, b api.Entry) bool { return a.Term == b.Term })
	if k < 0 || k >= len(l) {
		return join(r, len(r.Entries), nil)
	}
	return join(r, at+k, l[k:])
}

// differ is the first place at which two rows are not alike, or at which only one goes on; -1, if there is none.
func differ[T any](a, b []T, alike func(T, T) bool) int {
	k := 0
look:
	for {
		switch {
		case k == len(a) && k == len(b):
			return -1
		case k == len(a) || k == len(b) || !alike(a[k], b[k]):
			break look
		}
		k++
	}
	return k
}
