package disk_test

import (
	"bytes"
	"math"
	"slices"
	"strconv"
	"strings"
	"testing"

	"weir/api"
	"weir/disk"
)

// step is a call that was made, and what it should have told.
type step struct {
	call      string
	got, want api.Errno
}

func check(t *testing.T, steps ...step) {
	t.Helper()
	for _, s := range steps {
		if s.got != s.want {
			t.Errorf("%s: %v; want %v", s.call, s.got, s.want)
		}
	}
}

// ok fails the test at once, if one of the calls that lead up to it went wrong.
func ok(t *testing.T, l ...api.Errno) {
	t.Helper()
	for k, e := range l {
		if e != api.OK {
			t.Fatalf("call %d: %v", k, e)
		}
	}
}

// holds looks at a file's text, and how much of it is sure.
func holds(t *testing.T, d *disk.Disk, name, text string, sure int) {
	t.Helper()
	b, e := d.Read(name)
	n, f := d.Sure(name)
	if e != api.OK || f != api.OK || string(b) != text || n != sure {
		t.Errorf("%s: %q %v, %d %v; want %q, %d", name, b, e, n, f, text, sure)
	}
}

// absent looks that a name has no file.
func absent(t *testing.T, d *disk.Disk, name string) {
	t.Helper()
	b, e := d.Read(name)
	n, f := d.Sure(name)
	if e != api.ErrNone || f != api.ErrNone || len(b) != 0 || n != 0 {
		t.Errorf("%s: %q %v, %d %v; want no file", name, b, e, n, f)
	}
}

// names looks at all names.
func names(t *testing.T, d *disk.Disk, want ...string) {
	t.Helper()
	if got := d.Names(); !slices.Equal(got, want) {
		t.Errorf("names %q; want %q", got, want)
	}
}

// every makes each of the calls that tell an error, at arguments that are wrong in as many ways as there are.
func every(t *testing.T, d *disk.Disk, want api.Errno) {
	t.Helper()
	for _, name := range []string{"a", "z", "", strings.Repeat("x", api.MaxName+1)} {
		b, read := d.Read(name)
		n, sure := d.Sure(name)
		if len(b) != 0 || n != 0 {
			t.Errorf("%q %d beside an error", b, n)
		}
		check(t,
			step{"make", d.Make(name), want},
			step{"append", d.Append(name, make([]byte, api.MaxFile+1)), want},
			step{"sync", d.Sync(name), want},
			step{"read", read, want},
			step{"sure", sure, want},
			step{"cut", d.Cut(name, -1), want},
			step{"remove", d.Remove(name), want},
			step{"rename", d.Rename(name, ""), want},
		)
	}
	check(t,
		step{"crash", d.Crash([]api.Piece{{Name: "a", Keep: 1}}), want},
		step{"arm", d.Arm(-1, nil), want},
		step{"arm", d.Arm(0, nil), want},
	)
	if l := d.Names(); len(l) != 0 {
		t.Errorf("names %q", l)
	}
}

// P1.1

func TestNewIsUpAndEmpty(t *testing.T) {
	d := disk.New()
	names(t, d)
	absent(t, d, "a")
	check(t, step{"open", d.Open(), api.ErrArg}, step{"make", d.Make("a"), api.OK})
	names(t, disk.New())
}

func TestNoDisk(t *testing.T) {
	var d *disk.Disk
	every(t, d, api.ErrNil)
	check(t, step{"open", d.Open(), api.ErrNil})
	if d.Copy() != nil {
		t.Error("a copy of no disk")
	}
}

func TestDownTellsErrDownAheadOfAll(t *testing.T) {
	d := disk.New()
	ok(t, d.Make("a"), d.Append("a", []byte("1234")), d.Crash([]api.Piece{{Name: "a", Keep: 3}}))
	every(t, d, api.ErrDown)
	every(t, d.Copy(), api.ErrDown)
	check(t, step{"open", d.Open(), api.OK}, step{"open again", d.Open(), api.ErrArg})
	names(t, d, "a")
	holds(t, d, "a", "123", 3)
}

// P1.2

func TestMake(t *testing.T) {
	d := disk.New()
	long := strings.Repeat("n", api.MaxName)
	check(t,
		step{"one byte", d.Make("\x00"), api.OK},
		step{"40 bytes", d.Make(long), api.OK},
		step{"41 bytes", d.Make(long + "n"), api.ErrArg},
		step{"40 runes of two bytes", d.Make(strings.Repeat("é", api.MaxName)), api.ErrArg},
		step{"no bytes", d.Make(""), api.ErrArg},
		step{"twice", d.Make(long), api.ErrTwice},
	)
	holds(t, d, long, "", 0)
	names(t, d, "\x00", long)
}

func TestMakeTwiceLeavesTheFile(t *testing.T) {
	d := disk.New()
	ok(t, d.Make("a"), d.Append("a", []byte("12")), d.Sync("a"), d.Append("a", []byte("3")))
	check(t, step{"make", d.Make("a"), api.ErrTwice})
	holds(t, d, "a", "123", 2)
}

func TestMakeFull(t *testing.T) {
	d := disk.New()
	for k := range api.MaxFiles {
		ok(t, d.Make(strconv.Itoa(k)))
	}
	check(t,
		step{"one more", d.Make("more"), api.ErrFull},
		step{"no name is told first", d.Make(""), api.ErrArg},
		step{"twice is told first", d.Make("63"), api.ErrTwice},
		step{"rename needs no room", d.Rename("0", "more"), api.OK},
		step{"still full", d.Make("0"), api.ErrFull},
		step{"remove", d.Remove("more"), api.OK},
		step{"room again", d.Make("0"), api.OK},
	)
	if n := len(d.Names()); n != api.MaxFiles {
		t.Errorf("%d files", n)
	}
}

func TestNoSuchFile(t *testing.T) {
	d := disk.New()
	ok(t, d.Make("a"))
	for _, name := range []string{"z", "", strings.Repeat("x", api.MaxName+1)} {
		absent(t, d, name)
		check(t,
			step{"append", d.Append(name, nil), api.ErrNone},
			step{"append too much", d.Append(name, make([]byte, api.MaxFile+1)), api.ErrNone},
			step{"sync", d.Sync(name), api.ErrNone},
			step{"cut", d.Cut(name, 0), api.ErrNone},
			step{"cut below 0", d.Cut(name, -1), api.ErrNone},
			step{"remove", d.Remove(name), api.ErrNone},
			step{"rename", d.Rename(name, "a"), api.ErrNone},
			step{"rename to no name", d.Rename(name, ""), api.ErrNone},
		)
	}
	names(t, d, "a")
}

func TestRemove(t *testing.T) {
	d := disk.New()
	ok(t, d.Make("b"), d.Make("a"), d.Make("c"), d.Append("a", []byte("1")), d.Append("c", []byte("3")), d.Remove("a"))
	absent(t, d, "a")
	names(t, d, "b", "c")
	holds(t, d, "c", "3", 0)
	ok(t, d.Make("a"))
	holds(t, d, "a", "", 0)
	ok(t, d.Remove("a"), d.Crash([]api.Piece{{Name: "a", Keep: 1}}), d.Open())
	absent(t, d, "a")
}

func TestRename(t *testing.T) {
	d := disk.New()
	ok(t, d.Make("a"), d.Make("b"), d.Make("c"), d.Append("b", []byte("22")), d.Sync("b"), d.Append("b", []byte("2")), d.Append("a", []byte("1")))
	long := strings.Repeat("n", api.MaxName)
	check(t,
		step{"to no bytes", d.Rename("b", ""), api.ErrArg},
		step{"to 41 bytes", d.Rename("b", long+"n"), api.ErrArg},
		step{"to itself", d.Rename("b", "b"), api.OK},
	)
	holds(t, d, "b", "222", 2)
	ok(t, d.Rename("b", "a"))
	names(t, d, "a", "c")
	holds(t, d, "a", "222", 2)
	absent(t, d, "b")
	ok(t, d.Rename("a", long), d.Append(long, []byte("x")))
	names(t, d, "c", long)
	ok(t, d.Crash([]api.Piece{{Name: "a", Keep: 9}, {Name: long, Keep: 1}}), d.Open())
	names(t, d, "c", long)
	holds(t, d, long, "222", 3)
}

func TestRenameOfAnEmptyFile(t *testing.T) {
	d := disk.New()
	ok(t, d.Make("a"), d.Append("a", []byte{7}), d.Make("b"), d.Rename("b", "a"))
	holds(t, d, "a", "", 0)
	absent(t, d, "b")
}

func TestNamesRise(t *testing.T) {
	d := disk.New()
	ok(t, d.Make("b"), d.Make("ab"), d.Make("a"), d.Make("é"), d.Make("B"), d.Make("\xff"), d.Make("10"), d.Make("9"))
	want := []string{"10", "9", "B", "a", "ab", "b", "é", "\xff"}
	names(t, d, want...)
	d.Names()[0] = "changed"
	names(t, d, want...)
}

// P1.3

func TestAppendSyncSure(t *testing.T) {
	d := disk.New()
	ok(t, d.Make("a"))
	holds(t, d, "a", "", 0)
	ok(t, d.Append("a", []byte("12")), d.Append("a", nil), d.Append("a", []byte("3")))
	holds(t, d, "a", "123", 0)
	ok(t, d.Sync("a"))
	holds(t, d, "a", "123", 3)
	ok(t, d.Append("a", []byte("45")))
	holds(t, d, "a", "12345", 3)
	ok(t, d.Sync("a"), d.Sync("a"))
	holds(t, d, "a", "12345", 5)
}

func TestSyncIsOfOneFile(t *testing.T) {
	d := disk.New()
	ok(t, d.Make("a"), d.Make("b"), d.Append("a", []byte("1")), d.Append("b", []byte("2")), d.Sync("a"))
	holds(t, d, "a", "1", 1)
	holds(t, d, "b", "2", 0)
}

func TestAppendLong(t *testing.T) {
	d := disk.New()
	ok(t, d.Make("a"), d.Append("a", []byte("1")))
	check(t,
		step{"one too many", d.Append("a", make([]byte, api.MaxFile)), api.ErrLong},
		step{"all that there is room for", d.Append("a", make([]byte, api.MaxFile-1)), api.OK},
		step{"one more", d.Append("a", []byte("2")), api.ErrLong},
		step{"nothing", d.Append("a", nil), api.OK},
	)
	holds(t, d, "a", "1"+strings.Repeat("\x00", api.MaxFile-1), 0)
	check(t,
		step{"cut", d.Cut("a", api.MaxFile-1), api.OK},
		step{"two", d.Append("a", []byte("23")), api.ErrLong},
		step{"one", d.Append("a", []byte("2")), api.OK},
	)
	holds(t, d, "a", "1"+strings.Repeat("\x00", api.MaxFile-2)+"2", api.MaxFile-1)
}

func TestAppendManyPieces(t *testing.T) {
	d := disk.New()
	ok(t, d.Make("a"))
	var want []byte
	for k := range 3000 {
		piece := bytes.Repeat([]byte{byte(k)}, k%7)
		ok(t, d.Append("a", piece))
		want = append(want, piece...)
	}
	holds(t, d, "a", string(want), 0)
	big := bytes.Repeat([]byte("0123456789abcde"), 5000)
	ok(t, d.Append("a", big), d.Append("a", []byte("end")))
	holds(t, d, "a", string(want)+string(big)+"end", 0)
}

func TestCut(t *testing.T) {
	d := disk.New()
	ok(t, d.Make("a"), d.Append("a", []byte("1234")), d.Sync("a"), d.Append("a", []byte("5678")))
	check(t,
		step{"below 0", d.Cut("a", -1), api.ErrArg},
		step{"the least", d.Cut("a", math.MinInt), api.ErrArg},
		step{"one behind the end", d.Cut("a", 9), api.ErrArg},
		step{"the greatest", d.Cut("a", math.MaxInt), api.ErrArg},
	)
	holds(t, d, "a", "12345678", 4)
	ok(t, d.Cut("a", 6))
	holds(t, d, "a", "123456", 6)
	ok(t, d.Append("a", []byte("xy")), d.Cut("a", 8))
	holds(t, d, "a", "123456xy", 8)
	ok(t, d.Cut("a", 2), d.Append("a", []byte("z")))
	holds(t, d, "a", "12z", 2)
	ok(t, d.Cut("a", 0), d.Cut("a", 0))
	holds(t, d, "a", "", 0)
}

func TestCutEverywhere(t *testing.T) {
	text := make([]byte, 2100)
	for k := range text {
		text[k] = byte(k ^ k>>8)
	}
	d := disk.New()
	ok(t, d.Make("a"), d.Append("a", text))
	for n := len(text); n >= 0; n-- {
		ok(t, d.Cut("a", n))
		b, e := d.Read("a")
		if e != api.OK || !bytes.Equal(b, text[:n]) {
			t.Fatalf("cut to %d: %d bytes, %v", n, len(b), e)
		}
		c := d.Copy()
		ok(t, c.Append("a", []byte("tail")))
		holds(t, c, "a", string(text[:n])+"tail", n)
	}
}

func TestNothingIsShared(t *testing.T) {
	d := disk.New()
	room := []byte("12345678")
	b := room[:4]
	ok(t, d.Make("a"), d.Append("a", b), d.Append("a", []byte("x")))
	copy(room, "????????")
	holds(t, d, "a", "1234x", 0)
	one, _ := d.Read("a")
	two, _ := d.Read("a")
	copy(one, "!!!!!")
	_ = append(one[:2], '!')
	if string(two) != "1234x" {
		t.Errorf("%q", two)
	}
	holds(t, d, "a", "1234x", 0)
	ok(t, d.Append("a", []byte("y")))
	if string(two) != "1234x" {
		t.Errorf("%q", two)
	}
}

func TestAppendLeavesWhatIsHandedIn(t *testing.T) {
	d := disk.New()
	room := []byte("12345678")
	ok(t, d.Make("a"), d.Append("a", room[:4]), d.Append("a", []byte("zz")))
	if string(room) != "12345678" {
		t.Errorf("%q", room)
	}
}

// P1.4

func TestCrashKeepsByTheFirstPiece(t *testing.T) {
	plan := []api.Piece{{Name: "a", Keep: 1}, {Name: "a", Keep: 3}, {Name: "most", Keep: math.MaxInt}, {Name: "least", Keep: math.MinInt}, {Name: "least", Keep: 2}, {Name: "none", Keep: 0}, {Name: "all", Keep: 2}, {Name: "sure", Keep: 2}, {Name: "z", Keep: 5}, {Name: "", Keep: 5}}
	was := slices.Clone(plan)
	d := disk.New()
	for _, name := range []string{"a", "most", "least", "none", "all", "untold", "sure"} {
		ok(t, d.Make(name), d.Append(name, []byte("123")), d.Sync(name))
	}
	for _, name := range []string{"a", "most", "least", "none", "all", "untold"} {
		ok(t, d.Append(name, []byte("4")), d.Append(name, []byte("5")))
	}
	ok(t, d.Crash(plan), d.Open())
	holds(t, d, "a", "1234", 4)
	holds(t, d, "most", "12345", 5)
	holds(t, d, "least", "123", 3)
	holds(t, d, "none", "123", 3)
	holds(t, d, "all", "12345", 5)
	holds(t, d, "untold", "123", 3)
	holds(t, d, "sure", "123", 3)
	names(t, d, "a", "all", "least", "most", "none", "sure", "untold")
	if !slices.Equal(plan, was) {
		t.Errorf("plan %v", plan)
	}
}

func TestCrashUndoesNoNames(t *testing.T) {
	d := disk.New()
	ok(t, d.Make("a"), d.Make("b"), d.Make("c"), d.Remove("a"), d.Rename("b", "d"), d.Crash(nil), d.Open())
	names(t, d, "c", "d")
	holds(t, d, "c", "", 0)
}

func TestCrashAndAppendAgain(t *testing.T) {
	d := disk.New()
	ok(t, d.Make("a"), d.Append("a", []byte("123")), d.Sync("a"), d.Append("a", []byte("45")), d.Crash([]api.Piece{{Name: "a", Keep: 1}}), d.Open())
	holds(t, d, "a", "1234", 4)
	ok(t, d.Append("a", []byte("x")))
	holds(t, d, "a", "1234x", 4)
	ok(t, d.Crash(nil), d.Open())
	holds(t, d, "a", "1234", 4)
}

func TestArmedAppend(t *testing.T) {
	d := disk.New()
	ok(t, d.Make("a"), d.Make("b"), d.Append("a", []byte("1")), d.Append("b", []byte("9")), d.Arm(0, []api.Piece{{Name: "a", Keep: 2}}))
	check(t, step{"append", d.Append("a", []byte("23")), api.ErrDown}, step{"sync", d.Sync("a"), api.ErrDown}, step{"open", d.Open(), api.OK})
	holds(t, d, "a", "12", 2)
	holds(t, d, "b", "", 0)
	check(t, step{"no longer armed", d.Append("a", []byte("4")), api.OK}, step{"no longer armed", d.Sync("a"), api.OK})
	holds(t, d, "a", "124", 3)
}

func TestArmedSyncDoesNothing(t *testing.T) {
	d := disk.New()
	ok(t, d.Make("a"), d.Append("a", []byte("12")), d.Arm(0, []api.Piece{{Name: "a", Keep: 1}}))
	check(t, step{"sync", d.Sync("a"), api.ErrDown}, step{"open", d.Open(), api.OK})
	holds(t, d, "a", "1", 1)
}

func TestArmedLetsPass(t *testing.T) {
	for n := range 6 {
		d := disk.New()
		ok(t, d.Make("a"), d.Make("b"), d.Arm(n, nil))
		for k := range n {
			if k%2 == 0 {
				ok(t, d.Append("a", []byte("1")))
			} else {
				ok(t, d.Sync("b"))
			}
		}
		if n%2 == 0 {
			check(t, step{"append", d.Append("b", nil), api.ErrDown})
		} else {
			check(t, step{"sync", d.Sync("a"), api.ErrDown})
		}
		ok(t, d.Open())
	}
}

func TestArmedCountsOnlyWhatTellsOK(t *testing.T) {
	d := disk.New()
	ok(t, d.Make("a"), d.Append("a", []byte("1")), d.Arm(1, []api.Piece{{Name: "a", Keep: 1}}))
	check(t,
		step{"append to none", d.Append("z", nil), api.ErrNone},
		step{"sync of none", d.Sync("z"), api.ErrNone},
		step{"append of too much", d.Append("a", make([]byte, api.MaxFile)), api.ErrLong},
		step{"arm below 0", d.Arm(-1, nil), api.ErrArg},
		step{"open", d.Open(), api.ErrArg},
		step{"make", d.Make("b"), api.OK},
		step{"rename", d.Rename("b", "c"), api.OK},
		step{"cut", d.Cut("c", 0), api.OK},
		step{"remove", d.Remove("c"), api.OK},
		step{"sync", d.Sync("a"), api.OK},
		step{"append to none", d.Append("z", nil), api.ErrNone},
		step{"append", d.Append("a", []byte("23")), api.ErrDown},
		step{"open", d.Open(), api.OK},
	)
	holds(t, d, "a", "12", 2)
}

func TestArmAgain(t *testing.T) {
	d := disk.New()
	ok(t, d.Make("a"), d.Arm(0, nil), d.Arm(1, []api.Piece{{Name: "a", Keep: 9}}), d.Append("a", []byte("1")))
	check(t, step{"append", d.Append("a", []byte("2")), api.ErrDown}, step{"open", d.Open(), api.OK})
	holds(t, d, "a", "12", 2)
	ok(t, d.Arm(5, nil), d.Arm(0, nil))
	check(t, step{"append", d.Append("a", []byte("2")), api.ErrDown}, step{"open", d.Open(), api.OK})
	ok(t, d.Arm(math.MaxInt, nil), d.Append("a", []byte("3")), d.Sync("a"))
	holds(t, d, "a", "123", 3)
}

func TestCrashDisarms(t *testing.T) {
	d := disk.New()
	ok(t, d.Make("a"), d.Arm(0, nil), d.Crash(nil), d.Open(), d.Append("a", []byte("1")), d.Sync("a"))
	holds(t, d, "a", "1", 1)
}

func TestArmKeepsItsOwnPlan(t *testing.T) {
	d := disk.New()
	plan := []api.Piece{{Name: "a", Keep: 1}}
	ok(t, d.Make("a"), d.Append("a", []byte("123")), d.Arm(0, plan))
	c := d.Copy()
	plan[0] = api.Piece{Name: "a", Keep: 3}
	check(t, step{"sync", d.Sync("a"), api.ErrDown}, step{"sync", c.Sync("a"), api.ErrDown})
	ok(t, d.Open(), c.Open())
	holds(t, d, "a", "1", 1)
	holds(t, c, "a", "1", 1)
}

func TestCopyHasNothingInCommon(t *testing.T) {
	d := disk.New()
	ok(t, d.Make("a"), d.Make("b"), d.Append("a", []byte("12")), d.Sync("a"), d.Append("a", []byte("3")))
	c := d.Copy()
	ok(t, d.Append("a", []byte("d")), d.Rename("b", "bd"), d.Sync("a"))
	ok(t, c.Append("a", []byte("c")), c.Make("new"))
	holds(t, d, "a", "123d", 4)
	holds(t, c, "a", "123c", 2)
	names(t, d, "a", "bd")
	names(t, c, "a", "b", "new")
	ok(t, c.Cut("a", 1), c.Append("a", []byte("??")), d.Remove("bd"))
	holds(t, d, "a", "123d", 4)
	holds(t, c, "a", "1??", 1)
	names(t, c, "a", "b", "new")
	ok(t, d.Crash(nil))
	check(t, step{"copy is up", c.Open(), api.ErrArg})
}

func TestCopyIsArmedForItself(t *testing.T) {
	d := disk.New()
	ok(t, d.Make("a"), d.Arm(2, []api.Piece{{Name: "a", Keep: 9}}), d.Append("a", []byte("1")))
	c := d.Copy()
	ok(t, d.Sync("a"), c.Append("a", []byte("2")))
	check(t, step{"sync", d.Sync("a"), api.ErrDown}, step{"append", c.Append("a", []byte("3")), api.ErrDown})
	ok(t, d.Open(), c.Open())
	holds(t, d, "a", "1", 1)
	holds(t, c, "a", "123", 3)
}

func TestCopyOfADownDisk(t *testing.T) {
	d := disk.New()
	ok(t, d.Make("a"), d.Append("a", []byte("12")), d.Crash([]api.Piece{{Name: "a", Keep: 1}}))
	c := d.Copy()
	check(t, step{"read", c.Sync("a"), api.ErrDown}, step{"open", c.Open(), api.OK}, step{"read", d.Sync("a"), api.ErrDown})
	holds(t, c, "a", "1", 1)
}
