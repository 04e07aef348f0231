package disk

import (
	"slices"

	"weir/api"
)

// fuse is what an armed disk waits for: lit, if it is armed; pass: how many calls it lets pass before it crashes by plan.
type fuse struct {
	lit  bool
	pass int
	plan []api.Piece
}

// twin is a fuse that is the same, and shares nothing with this one.
func (f fuse) twin() fuse { return fuse{f.lit, f.pass, slices.Clone(f.plan)} }

// Crash: P1.4.
func (d *Disk) Crash(plan []api.Piece) api.Errno {
	e := d.lost()
	if e == api.OK {
		d.fall(plan)
	}
	return e
}

// Open: P1.4.
func (d *Disk) Open() api.Errno {
	if e := d.lost(); e != api.ErrDown {
		return first(e, api.ErrArg)
	}
	d.down = false
	return api.OK
}

// Arm: P1.4.
func (d *Disk) Arm(n int, plan []api.Piece) api.Errno {
	e := first(d.lost(), when(n < 0, api.ErrArg))
	if e == api.OK {
		d.fuse = fuse{true, n, plan}.twin()
	}
	return e
}

// burn counts a call that else tells OK; the one that the disk was armed for crashes it.
func (d *Disk) burn() api.Errno {
	if !d.fuse.lit {
		return api.OK
	}
	if d.fuse.pass > 0 {
		d.fuse.pass--
		return api.OK
	}
	d.fall(d.fuse.plan)
	return api.ErrDown
}

// fall is a crash.
func (d *Disk) fall(plan []api.Piece) {
	for _, f := range d.files {
		f.cut(f.sure + stays(plan, f))
	}
	d.down, d.fuse = true, fuse{}
}

// stays is how many of a file's late bytes a crash leaves.
func stays(plan []api.Piece, f *file) int {
	k := where(plan, f.name, func(p api.Piece) string { return p.Name })
	if k < 0 {
		return 0
	}
	return min(max(plan[k].Keep, 0), f.size()-f.sure)
}
