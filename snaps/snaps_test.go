package snaps_test

import (
	"bytes"
	"math/rand"
	"slices"
	"strings"
	"testing"

	"weir/api"
	"weir/disk"
	"weir/snaps"
	"weir/wire"
)

func snap(index int, data string) api.Snapshot {
	return api.Snapshot{Index: index, Term: 3, Set: 5, Data: []byte(data)}
}

func open(t *testing.T, d *disk.Disk) *snaps.Snaps {
	t.Helper()
	s, e := snaps.Open(d, "snap")
	if e != api.OK {
		t.Fatal(e)
	}
	return s
}

func holds(t *testing.T, s *snaps.Snaps, want api.Snapshot, is bool) {
	t.Helper()
	if x, ok := s.Get(); ok != is || !snaps.Same(x, want) {
		t.Errorf("%v %v; want %v %v", x, ok, want, is)
	}
}

func TestBytesAndRead(t *testing.T) { // P8.1
	b, e := snaps.Bytes(snap(258, "ab"))
	want, _ := wire.Frame([]byte{0, 0, 0, 0, 0, 0, 1, 2, 0, 0, 0, 0, 0, 0, 0, 3, 5, 'a', 'b'})
	if e != api.OK || !bytes.Equal(b, want) {
		t.Error(b, e)
	}
	most := api.MaxText - 17
	for n, x := range []struct {
		x  api.Snapshot
		is bool
	}{
		{api.Snapshot{Index: 1, Term: 1, Set: 1}, true}, {api.Snapshot{Index: 1, Term: 1, Set: 255, Data: make([]byte, most)}, true}, {api.Snapshot{Index: 1, Term: 1, Set: 1, Data: make([]byte, most+1)}, false},
		{api.Snapshot{Term: 1, Set: 1}, false}, {api.Snapshot{Index: 1, Set: 1}, false}, {api.Snapshot{Index: 1, Term: 1}, false}, {api.Snapshot{Index: -1, Term: 1, Set: 1}, false}, {api.Snapshot{Index: 1, Term: -1, Set: 1}, false},
	} {
		b, e := snaps.Bytes(x.x)
		if (e == api.OK) != x.is || e != api.OK && (e != api.ErrArg || b != nil) {
			t.Error(n, e)
		}
		if !x.is {
			continue
		}
		if y, e := snaps.Read(b); e != api.OK || !snaps.Same(x.x, y) {
			t.Error(n, e)
		}
	}
	for k := range b {
		c := slices.Clone(b)
		c[k] ^= 1
		for _, l := range [][]byte{b[:k], c} {
			if x, e := snaps.Read(l); e != api.ErrBad || !snaps.Same(x, api.Snapshot{}) {
				t.Error(k, x, e)
			}
		}
	}
	zero, _ := wire.Frame(make([]byte, 20))
	short, _ := wire.Frame(make([]byte, 16))
	for _, l := range [][]byte{append(slices.Clone(b), 0), zero, short, nil} {
		if x, e := snaps.Read(l); e != api.ErrBad || !snaps.Same(x, api.Snapshot{}) {
			t.Error(x, e)
		}
	}
}

func TestSame(t *testing.T) { // P8.1
	a := snap(1, "a")
	for n, b := range []api.Snapshot{{Index: 2, Term: 3, Set: 5, Data: []byte("a")}, {Index: 1, Term: 4, Set: 5, Data: []byte("a")}, {Index: 1, Term: 3, Set: 4, Data: []byte("a")}, snap(1, "b"), snap(1, ""), snap(1, "ab")} {
		if snaps.Same(a, b) {
			t.Error(n)
		}
	}
	if !snaps.Same(a, snap(1, "a")) || !snaps.Same(api.Snapshot{Data: []byte{}}, api.Snapshot{}) {
		t.Error("same")
	}
}

func TestOpen(t *testing.T) { // P8.2
	down := disk.New()
	down.Crash(nil)
	for _, x := range []struct {
		d    *disk.Disk
		name string
		want api.Errno
	}{
		{disk.New(), "", api.ErrArg}, {disk.New(), strings.Repeat("n", api.MaxName-3), api.ErrArg}, {disk.New(), strings.Repeat("n", api.MaxName-4), api.OK},
		{nil, "", api.ErrArg}, {nil, "s", api.ErrNil}, {down, "", api.ErrArg}, {down, "s", api.ErrDown},
	} {
		if s, e := snaps.Open(x.d, x.name); e != x.want || (s == nil) != (e != api.OK) {
			t.Error(x.name, e)
		}
	}
	d := disk.New()
	holds(t, open(t, d), api.Snapshot{}, false)
	b, _ := snaps.Bytes(snap(7, "x"))
	d.Make("snap.new")
	d.Make("snap")
	d.Append("snap", b)
	holds(t, open(t, d), snap(7, "x"), true)
	if l := d.Names(); !slices.Equal(l, []string{"snap"}) {
		t.Error(l)
	}
	d.Append("snap", b)
	d.Make("snap.new")
	if s, e := snaps.Open(d, "snap"); s != nil || e != api.ErrBad {
		t.Error(e)
	}
}

func TestSave(t *testing.T) { // P8.3
	d := disk.New()
	s := open(t, d)
	d.Make("snap.new")
	d.Append("snap.new", []byte("left"))
	for n, x := range []struct {
		x    api.Snapshot
		want api.Errno
	}{
		{api.Snapshot{Index: 5, Term: 1}, api.ErrArg}, {snap(5, "one"), api.OK}, {snap(5, "two"), api.ErrArg}, {snap(4, "two"), api.ErrArg}, {snap(6, ""), api.OK}, {api.Snapshot{Index: 9, Set: 1}, api.ErrArg},
	} {
		was, is := s.Get()
		if e := s.Save(x.x); e != x.want {
			t.Error(n, e)
		} else if e == api.OK {
			was, is = x.x, true
		}
		holds(t, s, was, is)
		if n > 0 {
			holds(t, open(t, d), was, is)
			b, _ := d.Read("snap")
			if sure, _ := d.Sure("snap"); sure != len(b) {
				t.Error(n, "not sure")
			}
		}
	}
	if l := d.Names(); !slices.Equal(l, []string{"snap"}) {
		t.Error(l)
	}
	in := snap(8, "mine")
	s.Save(in)
	in.Data[0] = 'x'
	out, _ := s.Get()
	out.Data[1] = 'x'
	holds(t, s, snap(8, "mine"), true)
	d.Crash(nil)
	if s.Save(snap(9, "")) != api.ErrDown || s.Save(snap(8, "")) != api.ErrArg {
		t.Error("down")
	}
	holds(t, s, snap(8, "mine"), true)
	var none *snaps.Snaps
	holds(t, none, api.Snapshot{}, false)
	if none.Save(api.Snapshot{}) != api.ErrNil {
		t.Error("nil")
	}
}

func TestCrashes(t *testing.T) { // P8.4
	r := rand.New(rand.NewSource(1))
	for run := range 300 {
		d := disk.New()
		s := open(t, d)
		s.Save(snap(1, "old"))
		d.Arm(run%4, []api.Piece{{Name: "snap.new", Keep: r.Intn(60)}, {Name: "snap", Keep: r.Intn(60)}})
		next := snap(2, strings.Repeat("n", r.Intn(30)))
		e := s.Save(next)
		if run%4 < 2 {
			if e != api.ErrDown {
				t.Fatal(run, e)
			}
			holds(t, s, snap(1, "old"), true)
			d.Open()
			holds(t, open(t, d), snap(1, "old"), true)
			continue
		}
		if e != api.OK || d.Crash(nil) != api.OK || d.Open() != api.OK {
			t.Fatal(run, e)
		}
		holds(t, open(t, d), next, true)
	}
}
