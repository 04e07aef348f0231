package disk_test

import (
	"bytes"
	"math/rand"
	"slices"
	"testing"

	"weir/api"
	"weir/disk"
)

// paper is a file as the chapter tells it: a text, of which the beginning is sure.
type paper struct {
	text []byte
	sure int
}

// desk is a disk as the chapter tells it, written as plainly as may be.
type desk struct {
	files map[string]paper
	down  bool
	armed bool
	pass  int
	plan  []api.Piece
}

func (m *desk) copy() *desk {
	c := *m
	c.files = map[string]paper{}
	for name, p := range m.files {
		c.files[name] = paper{slices.Clone(p.text), p.sure}
	}
	c.plan = slices.Clone(m.plan)
	return &c
}

func (m *desk) crash(plan []api.Piece) {
	for name, p := range m.files {
		keep := 0
		for k := len(plan) - 1; k >= 0; k-- {
			if plan[k].Name == name {
				keep = plan[k].Keep
			}
		}
		keep = max(0, min(keep, len(p.text)-p.sure))
		m.files[name] = paper{p.text[:p.sure+keep], p.sure + keep}
	}
	m.down, m.armed = true, false
}

// late is the place of the crash that a disk is armed for: does this call, which would tell OK, meet it?
func (m *desk) late() bool {
	m.pass--
	return m.armed && m.pass < 0
}

func (m *desk) put(name string, b []byte) api.Errno {
	p, there := m.files[name]
	switch {
	case m.down:
		return api.ErrDown
	case !there:
		return api.ErrNone
	case len(p.text)+len(b) > api.MaxFile:
		return api.ErrLong
	}
	m.files[name] = paper{append(slices.Clone(p.text), b...), p.sure}
	if m.late() {
		m.crash(m.plan)
		return api.ErrDown
	}
	return api.OK
}

func (m *desk) sync(name string) api.Errno {
	p, there := m.files[name]
	switch {
	case m.down:
		return api.ErrDown
	case !there:
		return api.ErrNone
	case m.late():
		m.crash(m.plan)
		return api.ErrDown
	}
	m.files[name] = paper{p.text, len(p.text)}
	return api.OK
}

func (m *desk) cut(name string, n int) api.Errno {
	p, there := m.files[name]
	switch {
	case m.down:
		return api.ErrDown
	case !there:
		return api.ErrNone
	case n < 0 || n > len(p.text):
		return api.ErrArg
	}
	m.files[name] = paper{p.text[:n], n}
	return api.OK
}

func (m *desk) make(name string) api.Errno {
	_, there := m.files[name]
	switch {
	case m.down:
		return api.ErrDown
	case name == "":
		return api.ErrArg
	case there:
		return api.ErrTwice
	case len(m.files) >= api.MaxFiles:
		return api.ErrFull
	}
	m.files[name] = paper{}
	return api.OK
}

func (m *desk) move(from, to string) api.Errno {
	p, there := m.files[from]
	switch {
	case m.down:
		return api.ErrDown
	case !there:
		return api.ErrNone
	case to == "":
		return api.ErrArg
	}
	delete(m.files, from)
	m.files[to] = p
	return api.OK
}

func (m *desk) remove(name string) api.Errno {
	_, there := m.files[name]
	switch {
	case m.down:
		return api.ErrDown
	case !there:
		return api.ErrNone
	}
	delete(m.files, name)
	return api.OK
}

// same looks that the disk holds what the model holds.
func same(t *testing.T, d *disk.Disk, m *desk) {
	t.Helper()
	if m.down {
		if d.Names() != nil {
			t.Fatal("names of a disk that is down")
		}
		return
	}
	var want []string
	for name, p := range m.files {
		want = append(want, name)
		b, e := d.Read(name)
		n, f := d.Sure(name)
		if e != api.OK || f != api.OK || !bytes.Equal(b, p.text) || n != p.sure {
			t.Fatalf("%s: %d bytes %v, %d sure %v; want %d, %d", name, len(b), e, n, f, len(p.text), p.sure)
		}
	}
	slices.Sort(want)
	if !slices.Equal(d.Names(), want) {
		t.Fatalf("names %q; want %q", d.Names(), want)
	}
}

// walk makes one call at the disk and at the model, and tells what both answered.
func walk(r *rand.Rand, d *disk.Disk, m *desk) (got, want api.Errno) {
	all := []string{"a", "b", "c", "d", ""}
	name, other := all[r.Intn(len(all))], all[r.Intn(len(all))]
	var plan []api.Piece
	for range r.Intn(5) {
		plan = append(plan, api.Piece{Name: all[r.Intn(len(all))], Keep: r.Intn(1500) - 100})
	}
	switch r.Intn(12) {
	case 0:
		return d.Make(name), m.make(name)
	case 1:
		return d.Remove(name), m.remove(name)
	case 2:
		return d.Rename(name, other), m.move(name, other)
	case 3:
		n := r.Intn(3000) - 10
		return d.Cut(name, n), m.cut(name, n)
	case 4:
		if r.Intn(4) > 0 {
			return api.OK, api.OK
		}
		if m.down {
			return d.Crash(plan), api.ErrDown
		}
		m.crash(plan)
		return d.Crash(plan), api.OK
	case 5:
		n := r.Intn(9) - 1
		if m.down {
			return d.Arm(n, plan), api.ErrDown
		}
		if n < 0 {
			return d.Arm(n, plan), api.ErrArg
		}
		m.armed, m.pass, m.plan = true, n, plan
		return d.Arm(n, plan), api.OK
	case 6:
		if !m.down {
			return d.Open(), api.ErrArg
		}
		m.down = false
		return d.Open(), api.OK
	case 7, 8:
		return d.Sync(name), m.sync(name)
	}
	b := make([]byte, r.Intn(1+r.Intn(1200)))
	r.Read(b)
	return d.Append(name, b), m.put(name, b)
}

// TestModel: P1.1 to P1.5, over many calls in any order; copies are gone on with, and the first ones looked at again.
func TestModel(t *testing.T) {
	for seed := range int64(60) {
		r := rand.New(rand.NewSource(seed))
		d, m := disk.New(), &desk{files: map[string]paper{}}
		first, old := d, m
		for k := range 400 {
			if k%100 == 99 {
				first, old = d, m.copy()
				d, m = d.Copy(), m.copy()
			}
			if got, want := walk(r, d, m); got != want {
				t.Fatalf("seed %d, call %d: %v; want %v", seed, k, got, want)
			}
			same(t, d, m)
		}
		same(t, first, old)
	}
}

// TestSureOutlasts: P1.5, each crash leaves a beginning of the text, at least the sure one, and all of it is sure.
func TestSureOutlasts(t *testing.T) {
	r := rand.New(rand.NewSource(1))
	for range 300 {
		d := disk.New()
		ok(t, d.Make("a"))
		for range r.Intn(9) {
			ok(t, d.Append("a", bytes.Repeat([]byte{byte(r.Intn(256))}, r.Intn(700))))
			if r.Intn(3) == 0 {
				ok(t, d.Sync("a"))
			}
		}
		text, _ := d.Read("a")
		sure, _ := d.Sure("a")
		if sure < 0 || sure > len(text) {
			t.Fatalf("%d sure of %d", sure, len(text))
		}
		ok(t, d.Crash([]api.Piece{{Name: "a", Keep: r.Intn(2000) - 500}}), d.Open())
		left, _ := d.Read("a")
		n, _ := d.Sure("a")
		if n != len(left) || n < sure || !bytes.HasPrefix(text, left) {
			t.Fatalf("%d sure of %d, ahead of the crash %d of %d", n, len(left), sure, len(text))
		}
	}
}
