package disk

import "weir/api"

// first tells what is wrong first, OK if nothing is.
func first(l ...api.Errno) api.Errno {
	for _, e := range l {
		if e != api.OK {
			return e
		}
	}
	return api.OK
}

// when tells an error, if it is there.
func when(wrong bool, e api.Errno) api.Errno {
	if wrong {
		return e
	}
	return api.OK
}

// lost tells why the disk can't be asked.
func (d *Disk) lost() api.Errno {
	return first(when(d == nil, api.ErrNil), when(d != nil && d.down, api.ErrDown))
}

// lacks tells why a file of the disk can't be asked.
func (d *Disk) lacks(f *file) api.Errno {
	return first(d.lost(), when(f == nil, api.ErrNone))
}
