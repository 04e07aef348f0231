package hard_test

import (
	"math/rand"
	"slices"
	"strings"
	"testing"

	"weir/api"
	"weir/disk"
	"weir/hard"
	"weir/wire"
)

// copyOf is the bytes of one.
func copyOf(l ...int) []byte {
	var b []byte
	for _, n := range l {
		for k := 56; k >= 0; k -= 8 {
			b = append(b, byte(n>>k))
		}
	}
	b, _ = wire.Frame(b)
	return b
}

func disked(t *testing.T, files ...[]byte) *disk.Disk {
	t.Helper()
	d := disk.New()
	for k, b := range files {
		if b != nil {
			name := []string{"h.a", "h.b"}[k]
			if d.Make(name) != api.OK || d.Append(name, b) != api.OK {
				t.Fatal(name)
			}
		}
	}
	return d
}

func holds(t *testing.T, h *hard.Hard, want api.Hard, serial int) {
	t.Helper()
	if h.Get() != want || h.Serial() != serial {
		t.Errorf("%v %d; want %v %d", h.Get(), h.Serial(), want, serial)
	}
}

func open(t *testing.T, d *disk.Disk) *hard.Hard {
	t.Helper()
	h, e := hard.Open(d, "h")
	if e != api.OK {
		t.Fatal(e)
	}
	return h
}

func TestOpenRefuses(t *testing.T) { // P7.1
	down := disk.New()
	down.Crash(nil)
	for _, x := range []struct {
		d    *disk.Disk
		name string
		want api.Errno
	}{
		{disk.New(), "", api.ErrArg}, {disk.New(), strings.Repeat("n", api.MaxName-1), api.ErrArg}, {disk.New(), strings.Repeat("n", api.MaxName-2), api.OK},
		{nil, "", api.ErrArg}, {nil, "h", api.ErrNil}, {down, "", api.ErrArg}, {down, "h", api.ErrDown},
	} {
		if h, e := hard.Open(x.d, x.name); e != x.want || (h == nil) != (e != api.OK) {
			t.Error(x.name, e)
		}
	}
}

func TestNewest(t *testing.T) { // P7.1
	one, two, other := copyOf(4, 1, 2, 3), copyOf(5, 6, 7, 8), copyOf(5, 9, 9, 9)
	bad := slices.Clone(two)
	bad[15] ^= 4
	long := slices.Concat(two, []byte{0})
	short := copyOf(9, 9, 9)
	for n, x := range []struct {
		a, b   []byte
		want   api.Hard
		serial int
		e      api.Errno
	}{
		{nil, nil, api.Hard{}, 0, api.OK},
		{one, nil, api.Hard{Term: 1, Vote: 2, Boot: 3}, 4, api.OK},
		{nil, two, api.Hard{Term: 6, Vote: 7, Boot: 8}, 5, api.OK},
		{one, two, api.Hard{Term: 6, Vote: 7, Boot: 8}, 5, api.OK},
		{two, one, api.Hard{Term: 6, Vote: 7, Boot: 8}, 5, api.OK},
		{other, two, api.Hard{Term: 9, Vote: 9, Boot: 9}, 5, api.OK},
		{two, other, api.Hard{Term: 6, Vote: 7, Boot: 8}, 5, api.OK},
		{bad, one, api.Hard{Term: 1, Vote: 2, Boot: 3}, 4, api.OK},
		{one, long, api.Hard{Term: 1, Vote: 2, Boot: 3}, 4, api.OK},
		{bad, nil, api.Hard{}, 0, api.OK},
		{nil, []byte{}, api.Hard{}, 0, api.OK},
		{bad, short, api.Hard{}, 0, api.ErrBad},
		{[]byte{}, []byte{}, api.Hard{}, 0, api.ErrBad},
	} {
		d := disked(t, x.a, x.b)
		names := d.Names()
		h, e := hard.Open(d, "h")
		if e != x.e || (h == nil) != (e != api.OK) {
			t.Error(n, e)
		}
		holds(t, h, x.want, x.serial)
		if !slices.Equal(names, d.Names()) {
			t.Error(n, "written")
		}
		if h == nil {
			continue
		}
		was, kept := names, map[string]string{}
		for _, f := range was {
			b, _ := d.Read(f)
			kept[f] = string(b)
		}
		if h.Put(100, 1) != api.OK {
			t.Error(n, "put")
		}
		into := "h.a"
		if string(copyOf(x.serial, x.want.Term, x.want.Vote, x.want.Boot)) == kept["h.a"] && x.serial > 0 {
			into = "h.b"
		}
		b, _ := d.Read(into)
		sure, _ := d.Sure(into)
		if !slices.Equal(b, copyOf(x.serial+1, 100, 1, x.want.Boot)) || sure != len(b) {
			t.Error(n, into, b, sure)
		}
	}
}

func TestPut(t *testing.T) { // P7.2
	d := disk.New()
	h := open(t, d)
	serial := 0
	for n, x := range []struct {
		term, vote int
		want       api.Errno
		writes     bool
	}{
		{-1, 0, api.ErrArg, false}, {0, -1, api.ErrArg, false}, {0, 0, api.OK, false}, {1, 2, api.OK, true}, {1, 3, api.ErrArg, false}, {1, 0, api.ErrArg, false}, {1, 2, api.OK, false},
		{0, 2, api.ErrArg, false}, {2, -1, api.ErrArg, false}, {2, 0, api.OK, true}, {2, 0, api.OK, false}, {2, 5, api.OK, true}, {2, 4, api.ErrArg, false}, {9, 4, api.OK, true},
	} {
		was := h.Get()
		if e := h.Put(x.term, x.vote); e != x.want {
			t.Error(n, e)
		}
		if x.writes {
			serial++
			was = api.Hard{Term: x.term, Vote: x.vote}
		}
		holds(t, h, was, serial)
		holds(t, open(t, d), was, serial)
	}
}

func TestBoot(t *testing.T) { // P7.2
	d := disk.New()
	h := open(t, d)
	for k := 1; k < 6; k++ {
		if b, e := h.Boot(); b != k || e != api.OK {
			t.Error(b, e)
		}
	}
	h.Put(3, 1)
	holds(t, open(t, d), api.Hard{Term: 3, Vote: 1, Boot: 5}, 6)
	var none *hard.Hard
	holds(t, none, api.Hard{}, 0)
	if b, e := none.Boot(); b != 0 || e != api.ErrNil || none.Put(-1, 0) != api.ErrNil {
		t.Error("nil", b, e)
	}
}

func TestFails(t *testing.T) { // P7.2
	d := disk.New()
	h := open(t, d)
	for k := range api.MaxFiles {
		d.Make(strings.Repeat("x", k%40+1) + string(rune('0'+k/40)))
	}
	for k := 0; len(d.Names()) < api.MaxFiles; k++ {
		d.Make("y" + string(rune('0'+k)))
	}
	if h.Put(1, 1) != api.ErrFull {
		t.Error("full")
	}
	if b, e := h.Boot(); b != 0 || e != api.ErrFull {
		t.Error(b, e)
	}
	holds(t, h, api.Hard{}, 0)
	d.Crash(nil)
	if h.Put(1, 1) != api.ErrDown || h.Put(0, 0) != api.OK || h.Put(0, -1) != api.ErrArg {
		t.Error("down")
	}
	holds(t, h, api.Hard{}, 0)
}

// TestCrashes puts and boots, crashes at random places, and looks that what was told OK is there, or what was under way.
func TestCrashes(t *testing.T) { // P7.3
	r := rand.New(rand.NewSource(1))
	for run := range 500 {
		d := disk.New()
		h := open(t, d)
		sure := api.Hard{}
		votes := map[int]int{}
		for range 30 {
			if r.Intn(4) == 0 {
				d.Arm(r.Intn(6), []api.Piece{{Name: "h.a", Keep: r.Intn(45)}, {Name: "h.b", Keep: r.Intn(45)}})
			}
			want, e := sure, api.OK
			if r.Intn(3) == 0 {
				want.Boot++
				_, e = h.Boot()
			} else {
				want.Term, want.Vote = sure.Term+r.Intn(2), r.Intn(3)
				if e = h.Put(want.Term, want.Vote); e == api.ErrArg {
					if want.Term != sure.Term || sure.Vote == 0 || want.Vote == sure.Vote {
						t.Fatal(run, sure, want)
					}
					continue
				}
			}
			if e == api.ErrDown {
				d.Open()
				h = open(t, d)
				if g := h.Get(); g != sure && g != want {
					t.Fatal(run, g, sure, want)
				}
			} else if e != api.OK || h.Get() != want {
				t.Fatal(run, e)
			}
			sure = h.Get()
			if v := votes[sure.Term]; v != 0 && v != sure.Vote {
				t.Fatal(run, "two votes")
			}
			votes[sure.Term] = sure.Vote
		}
	}
}
