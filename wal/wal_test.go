package wal_test

import (
	"math/rand"
	"reflect"
	"slices"
	"strconv"
	"strings"
	"testing"

	"weir/api"
	"weir/disk"
	"weir/wal"
	"weir/wire"
)

// entries makes n of them, told apart by their terms from a number on.
func entries(from, n int) []api.Entry {
	var l []api.Entry
	for k := range n {
		l = append(l, api.Entry{Term: from + k, Kind: api.EntryCommand, Stamp: k, Data: []byte(strconv.Itoa(from + k))})
	}
	return l
}

// record is the bytes of one.
func record(index int, x api.Entry) []byte {
	var b []byte
	for k := 56; k >= 0; k -= 8 {
		b = append(b, byte(index>>k))
	}
	b, _ = wire.Frame(append(b, wire.Entry(x)...))
	return b
}

func open(t *testing.T, d *disk.Disk) *wal.Wal {
	t.Helper()
	w, cut, e := wal.Open(d, "log")
	if e != api.OK || cut != 0 {
		t.Fatal(cut, e)
	}
	return w
}

// holds looks at all that a log tells: the entries from an index on, and its files.
func holds(t *testing.T, w *wal.Wal, first int, l []api.Entry, files ...string) {
	t.Helper()
	if w.First() != first || w.Last() != first+len(l)-1 {
		t.Errorf("%d to %d; want %d and %d entries", w.First(), w.Last(), first, len(l))
	}
	if got := w.Entries(); len(got)+len(l) > 0 && !reflect.DeepEqual(got, l) {
		t.Errorf("%v; want %v", got, l)
	}
	if got := w.Files(); !slices.Equal(got, files) {
		t.Errorf("files %v; want %v", got, files)
	}
}

func ok(t *testing.T, l ...api.Errno) {
	t.Helper()
	for k, e := range l {
		if e != api.OK {
			t.Fatalf("call %d: %v", k, e)
		}
	}
}

// write makes a file with these bytes.
func write(t *testing.T, d *disk.Disk, name string, l ...[]byte) {
	t.Helper()
	ok(t, d.Make(name), d.Append(name, slices.Concat(l...)))
}

func TestOpenRefuses(t *testing.T) { // P6.1
	for _, x := range []struct {
		name string
		want api.Errno
	}{{"", api.ErrArg}, {strings.Repeat("n", api.MaxName-11), api.ErrArg}, {strings.Repeat("n", api.MaxName-12), api.OK}, {"n", api.OK}} {
		w, cut, e := wal.Open(disk.New(), x.name)
		if e != x.want || cut != 0 || (w == nil) != (e != api.OK) {
			t.Error(x.name, cut, e)
		}
	}
	if w, _, e := wal.Open(nil, "log"); w != nil || e != api.ErrNil {
		t.Error(e)
	}
	if _, _, e := wal.Open(nil, ""); e != api.ErrArg {
		t.Error(e)
	}
	d := disk.New()
	d.Crash(nil)
	if w, _, e := wal.Open(d, "log"); w != nil || e != api.ErrDown {
		t.Error(e)
	}
	d.Open()
	for k := range api.MaxFiles {
		d.Make(strconv.Itoa(k))
	}
	if w, _, e := wal.Open(d, "log"); w != nil || e != api.ErrFull {
		t.Error(e)
	}
}

func TestOpenSyncs(t *testing.T) { // P6.1
	d := disk.New()
	l := entries(1, 3)
	write(t, d, "log.4", record(7, l[0]), record(8, l[1]))
	write(t, d, "log.5", record(9, l[2]))
	c := d.Copy()
	w := open(t, d)
	holds(t, w, 7, l, "log.4", "log.5")
	for _, f := range w.Files() {
		b, _ := d.Read(f)
		if n, _ := d.Sure(f); n != len(b) || n == 0 {
			t.Error(f, n)
		}
	}
	c.Arm(1, nil) // the second segment's sync
	if w, _, e := wal.Open(c, "log"); w != nil || e != api.ErrDown {
		t.Error(e)
	}
	empty := disk.New()
	holds(t, open(t, empty), 1, nil, "log.0")
	if l := empty.Names(); !slices.Equal(l, []string{"log.0"}) {
		t.Error(l)
	}
}

func TestOpenCuts(t *testing.T) { // P6.1
	l := entries(1, 9)
	r := func(k int) []byte { return record(k+1, l[k]) }
	bad := slices.Clone(r(1))
	bad[20] ^= 1
	alone, _ := wire.Frame(make([]byte, 8))
	short, _ := wire.Frame(make([]byte, 3))
	for n, x := range []struct {
		files map[string][]byte
		held  []api.Entry
		first int
		left  []string
		cut   int
	}{
		{map[string][]byte{"log.0": slices.Concat(r(0), bad, r(2)), "log.1": r(3), "log.2": r(4)}, l[:1], 1, []string{"log.0"}, len(bad) + len(r(2)) + 2},
		{map[string][]byte{"log.0": slices.Concat(r(0), r(2))}, l[:1], 1, []string{"log.0"}, len(r(2))},
		{map[string][]byte{"log.0": slices.Concat(r(0), r(1)[:9])}, l[:1], 1, []string{"log.0"}, 9},
		{map[string][]byte{"log.0": slices.Concat(r(0), alone)}, l[:1], 1, []string{"log.0"}, len(alone)},
		{map[string][]byte{"log.0": slices.Concat(r(0), short, r(1))}, l[:1], 1, []string{"log.0"}, len(short) + len(r(1))},
		{map[string][]byte{"log.0": record(0, l[0])}, nil, 1, []string{"log.0"}, len(r(0))},
		{map[string][]byte{"log.0": record(-4, l[0])}, nil, 1, []string{"log.0"}, len(r(0))},
		{map[string][]byte{"log.0": nil, "log.1": r(0)}, nil, 1, []string{"log.0"}, 1},
		{map[string][]byte{"log.0": r(0), "log.1": nil, "log.2": r(1)}, l[:1], 1, []string{"log.0"}, 2},
		{map[string][]byte{"log.0": r(0), "log.1": bad}, l[:1], 1, []string{"log.0"}, 1},
		{map[string][]byte{"log.0": r(0), "log.1": slices.Concat(r(1), []byte{1}), "log.2": r(2)}, l[:2], 1, []string{"log.0", "log.1"}, 2},
		{map[string][]byte{"log.0": r(0), "log.1": r(2)}, l[:1], 1, []string{"log.0"}, 1},
		{map[string][]byte{"log.0": r(0), "log.2": r(1), "log.3": r(2)}, l[:1], 1, []string{"log.0"}, 2},
		{map[string][]byte{"log.9": r(4), "log.10": r(5), "log.12": r(6)}, l[4:6], 5, []string{"log.9", "log.10"}, 1},
		{map[string][]byte{"log.3": r(4), "log.04": r(5), "log.": r(5), "log.4x": r(5), "logs.4": r(5), "lo": r(5), "log.+4": r(5)}, l[4:5], 5, []string{"log.3"}, 0},
		{map[string][]byte{"log.99999999999999999999": r(0), "log.100000000000000000000": r(1), "log.100000000000000000002": r(2)}, l[:2], 1, []string{"log.99999999999999999999", "log.100000000000000000000"}, 1},
	} {
		d := disk.New()
		for f, b := range x.files {
			write(t, d, f, b)
		}
		others := len(d.Names())
		w, cut, e := wal.Open(d, "log")
		if e != api.OK || cut != x.cut {
			t.Error(n, cut, e)
			continue
		}
		holds(t, w, x.first, x.held, x.left...)
		again, cut, e := wal.Open(d, "log")
		if e != api.OK || cut != 0 || len(d.Names()) > others {
			t.Error(n, cut, e)
		}
		holds(t, again, x.first, x.held, x.left...)
	}
}

func TestAppend(t *testing.T) { // P6.2, P6.3
	d := disk.New()
	w := open(t, d)
	l := entries(1, 20)
	for _, index := range []int{0, 2, -1} {
		if w.Append(index, l) != api.ErrArg {
			t.Error(index)
		}
	}
	ok(t, w.Append(1, l[:9]))
	holds(t, w, 1, l[:9], "log.0", "log.1")
	b, _ := d.Read("log.0")
	if n, _ := d.Sure("log.0"); n != len(b) {
		t.Error("the full segment is not sure")
	}
	if n, _ := d.Sure("log.1"); n != 0 {
		t.Error("the last segment is sure")
	}
	if b, _ := d.Read("log.1"); !reflect.DeepEqual(b, record(9, l[8])) {
		t.Error(b)
	}
	ok(t, w.Append(10, nil), w.Sync())
	if n, _ := d.Sure("log.1"); n != len(record(9, l[8])) {
		t.Error("not synced", n)
	}
	ok(t, w.Append(10, l[9:17]))
	holds(t, w, 1, l[:17], "log.0", "log.1", "log.2")
	if w.Append(17, l) != api.ErrArg {
		t.Error("again")
	}
	holds(t, open(t, d), 1, l[:17], "log.0", "log.1", "log.2")
}

func TestAppendFails(t *testing.T) { // P6.3
	for calls := range 12 {
		d := disk.New()
		w := open(t, d)
		l := entries(1, 10)
		d.Arm(calls, []api.Piece{{Name: "log.0", Keep: 1 << 20}, {Name: "log.1", Keep: 3}})
		e := w.Append(1, l)
		held := min(calls, 8)
		if calls > 8 { // the ninth call is a sync
			held = calls - 1
		}
		if calls == 11 && e != api.OK || calls < 11 && e != api.ErrDown || w.Last() != held {
			t.Fatal(calls, e, w.Last())
		}
	}
	d := disk.New()
	w := open(t, d)
	for k := range api.MaxFiles - 1 {
		d.Make(strconv.Itoa(k))
	}
	l := entries(1, 9)
	if w.Append(1, l) != api.ErrFull {
		t.Error("full")
	}
	holds(t, w, 1, l[:8], "log.0")
	d.Remove("0")
	ok(t, w.Append(9, l[8:]))
	if e := w.Append(10, []api.Entry{l[0], {Data: make([]byte, api.MaxText)}, l[1]}); e != api.ErrLong {
		t.Error(e)
	}
	holds(t, w, 1, append(l, l[0]), "log.0", "log.1")
	d.Remove("log.1")
	if w.Append(11, l) != api.ErrNone || w.Sync() != api.ErrNone {
		t.Error("no file")
	}
	d.Crash(nil)
	if w.Append(11, l) != api.ErrDown || w.Sync() != api.ErrDown || w.Behind(3) != api.ErrDown || w.Begin(2) != api.ErrDown {
		t.Error("down")
	}
}

func TestBehind(t *testing.T) { // P6.4
	l := entries(1, 26)
	begin := func() (*disk.Disk, *wal.Wal) {
		d := disk.New()
		w := open(t, d)
		ok(t, w.Append(1, l))
		return d, w
	}
	for index := range 27 {
		d, w := begin()
		ok(t, w.Behind(index))
		var files []string
		for k := range max(1, (index+7)/8) {
			files = append(files, "log."+strconv.Itoa(k))
		}
		holds(t, w, 1, l[:index], files...)
		if w.Behind(-1) != api.ErrArg || w.Behind(index+1) != api.ErrArg {
			t.Error("beyond")
		}
		ok(t, w.Append(index+1, l[20:]))
		holds(t, open(t, d), 1, append(l[:index:index], l[20:]...), w.Files()...)
	}
	d, w := begin()
	ok(t, w.Ahead(16))
	if w.Behind(15) != api.ErrArg || w.Behind(16) != api.OK {
		t.Error("below the first")
	}
	holds(t, w, 17, nil, "log.2")
	ok(t, w.Append(17, l[:1]))
	holds(t, open(t, d), 17, l[:1], "log.2")
	d, w = begin()
	d.Remove("log.1")
	if w.Behind(3) != api.ErrNone {
		t.Error("no file")
	}
	holds(t, w, 1, l[:16], "log.0", "log.1")
	d, w = begin()
	d.Append("log.0", []byte("more"))
	ok(t, w.Behind(8))
	if b, _ := d.Read("log.0"); !strings.HasSuffix(string(b), "more") {
		t.Error("cut where nothing stands behind")
	}
}

func TestAhead(t *testing.T) { // P6.4
	l := entries(1, 18)
	for index := -1; index <= 18; index++ {
		d := disk.New()
		w := open(t, d)
		ok(t, w.Append(1, l), w.Ahead(index))
		first, files := 1, []string{"log.0", "log.1", "log.2"}
		if index >= 16 {
			first, files = 17, files[2:]
		} else if index >= 8 {
			first, files = 9, files[1:]
		}
		holds(t, w, first, l[first-1:], files...)
		if w.Ahead(19) != api.ErrArg {
			t.Error("beyond")
		}
		holds(t, open(t, d), first, l[first-1:], files...)
	}
}

func TestBegin(t *testing.T) { // P6.4, P6.5
	d := disk.New()
	w := open(t, d)
	l := entries(1, 17)
	ok(t, w.Append(1, l))
	if w.Begin(0) != api.ErrArg || w.Begin(-1) != api.ErrArg {
		t.Error("below 1")
	}
	c0 := d.Copy()
	w0 := open(t, c0)
	ok(t, w0.Begin(1))
	holds(t, w0, 1, nil, "log.2")
	ok(t, w.Begin(40))
	holds(t, w, 40, nil, "log.2")
	if w.Append(18, l) != api.ErrArg {
		t.Error("append")
	}
	c := d.Copy()
	holds(t, open(t, c), 1, nil, "log.2")
	ok(t, w.Append(40, l[:2]), w.Sync())
	holds(t, open(t, d), 40, l[:2], "log.2")
}

func TestNoLog(t *testing.T) {
	for _, w := range []*wal.Wal{nil, {}} {
		for k, e := range []api.Errno{w.Append(5, nil), w.Sync(), w.Behind(-9), w.Ahead(7), w.Begin(0)} {
			if e != api.ErrNil {
				t.Error(k, e)
			}
		}
		if w.First() != 0 || w.Last() != 0 || len(w.Entries()) != 0 || len(w.Files()) != 0 {
			t.Error("zero")
		}
	}
}

func TestNothingShared(t *testing.T) {
	w := open(t, disk.New())
	l := entries(1, 2)
	ok(t, w.Append(1, l))
	l[0].Data[0] = 'x'
	w.Entries()[1].Data[0] = 'x'
	holds(t, w, 1, entries(1, 2), "log.0")
}

// TestCrashes goes through random calls, crashes at random places, and holds what is there against what was synced and what was under way.
func TestCrashes(t *testing.T) { // P6.5
	r := rand.New(rand.NewSource(1))
	for run := range 400 {
		d := disk.New()
		w := open(t, d)
		var all []api.Entry // by indices from 1 on
		synced, first := 0, 1
		for range r.Intn(25) {
			if r.Intn(6) == 0 {
				d.Arm(r.Intn(6), []api.Piece{{Name: "log.0", Keep: r.Intn(200)}, {Name: "log.1", Keep: r.Intn(200)}, {Name: "log.2", Keep: r.Intn(200)}, {Name: "log.3", Keep: r.Intn(200)}})
			}
			e := api.OK
			switch r.Intn(5) {
			case 0, 1:
				l := entries(r.Intn(1000), r.Intn(7))
				all = append(all[:len(all):len(all)], l...)
				e = w.Append(len(all)-len(l)+1, l)
			case 2:
				if e = w.Sync(); e == api.OK {
					synced = len(all)
				}
			case 3:
				to := first - 1 + r.Intn(len(all)-first+2)
				if e = w.Behind(to); e == api.OK {
					all = all[:to:to]
					synced = min(synced, to)
				}
			default:
				if e = w.Ahead(r.Intn(len(all) + 1)); e == api.OK {
					first = w.First()
				}
			}
			if e == api.OK {
				if w.First() != first || w.Last() != len(all) || len(all) >= first && !reflect.DeepEqual(w.Entries(), all[first-1:]) {
					t.Fatal(run, "held")
				}
				continue
			}
			if e != api.ErrDown || d.Open() != api.OK {
				t.Fatal(run, e)
			}
			if w, _, e = wal.Open(d, "log"); e != api.OK {
				t.Fatal(run, e)
			}
			got := w.Entries()
			if len(got) == 0 && first > synced {
				break
			}
			if w.First() != first || w.Last() < synced || w.Last() > len(all) || len(got) > 0 && !reflect.DeepEqual(got, all[first-1:w.Last()]) {
				t.Fatal(run, w.First(), w.Last(), first, synced, len(all))
			}
			if _, cut, e := wal.Open(d, "log"); cut != 0 || e != api.OK {
				t.Fatal(run, "again", cut, e)
			}
			all = all[:w.Last()]
			synced = len(all)
		}
	}
}
