package keeper_test

import (
	"reflect"
	"slices"
	"testing"

	"weir/api"
	"weir/disk"
	"weir/hard"
	"weir/keeper"
	"weir/rows"
	"weir/snaps"
	"weir/wal"
)

const elect = 100

func setup(self int, set uint8) api.Setup {
	return api.Setup{Self: self, Set: set, Elect: elect, Beat: 10}
}

func open(t *testing.T, d *disk.Disk, set uint8) *keeper.Keeper {
	t.Helper()
	k, e := keeper.Open(d, setup(1, set), 0)
	if e != api.OK {
		t.Fatal(e)
	}
	return k
}

func cmd(data string) api.Entry { return api.Entry{Kind: api.EntryCommand, Data: []byte(data)} }

// stands fails unless the rows of a keeper are these, told by their data, behind a base.
func stands(t *testing.T, k *keeper.Keeper, base int, data ...string) {
	t.Helper()
	r := k.Node().Rows()
	l := []string{}
	for _, x := range r.Entries {
		l = append(l, string(x.Data))
	}
	if r.Base != base || !slices.Equal(l, data) {
		t.Errorf("%d %q; want %d %q", r.Base, l, base, data)
	}
}

// alone is a keeper alone in its set that leads, with these commands behind its first entry.
func alone(t *testing.T, d *disk.Disk, data ...string) *keeper.Keeper {
	t.Helper()
	k := open(t, d, 1)
	k.Tick(elect)
	for n, x := range data {
		if index, _, e := k.Propose(cmd(x), elect); e != api.OK || index != n+2 {
			t.Fatal(index, e)
		}
	}
	return k
}

func TestOpen(t *testing.T) { // P14.1
	d := disk.New()
	k := open(t, d, 7)
	if k.Down() || k.Node().Hard() != (api.Hard{}) || k.Node().Set() != 7 {
		t.Error("fresh")
	}
	stands(t, k, 0)
	if l := d.Names(); !slices.Equal(l, []string{"log.0"}) {
		t.Error(l)
	}
	l, e := k.Tick(elect)
	if len(l) != 2 || l[0].Kind != api.MsgVoteAsk || e != api.OK {
		t.Error(l, e)
	}
	d.Crash(nil)
	if _, e := keeper.Open(d, setup(1, 7), 0); e != api.ErrDown {
		t.Error(e)
	}
	d.Open()
	if h := open(t, d, 7).Node().Hard(); h != (api.Hard{Term: 1, Vote: 1}) {
		t.Error(h)
	}
	if k, e := keeper.Open(nil, setup(1, 7), 0); k != nil || e != api.ErrNil {
		t.Error(e)
	}
	if k, e := keeper.Open(disk.New(), setup(0, 7), 0); k != nil || e != api.ErrArg {
		t.Error(e)
	}
}

// put writes a file.
func put(t *testing.T, d *disk.Disk, name string, b []byte) {
	t.Helper()
	if d.Make(name) != api.OK || d.Append(name, b) != api.OK {
		t.Fatal(name)
	}
}

func TestOpenRotten(t *testing.T) { // P14.1
	d := disk.New()
	put(t, d, "snap", []byte("rotten"))
	if _, e := keeper.Open(d, setup(1, 7), 0); e != api.ErrBad || len(d.Names()) != 1 {
		t.Error("snap", e, d.Names())
	}
	put(t, d, "hard.a", nil)
	put(t, d, "hard.b", nil)
	put(t, d, "snap.new", nil)
	if _, e := keeper.Open(d, setup(1, 7), 0); e != api.ErrBad || len(d.Names()) != 4 {
		t.Error("hard is ahead of snap", e, d.Names())
	}
	d = disk.New()
	w, _, _ := wal.Open(d, "log")
	w.Begin(3)
	w.Append(3, []api.Entry{{Term: 1}})
	if _, e := keeper.Open(d, setup(1, 7), 0); e != api.ErrBad {
		t.Error("a log without its beginning", e)
	}
}

// TestOpenFits lays a snapshot and a log side by side.
func TestOpenFits(t *testing.T) { // P14.1
	at := func(term int) api.Entry {
		return api.Entry{Term: term, Kind: api.EntryCommand, Data: []byte{'0' + byte(term)}}
	}
	for n, x := range []struct {
		first int
		terms []int
		left  []string
		begun bool
	}{
		{1, []int{1, 1, 1}, nil, true},
		{1, []int{1, 1, 1, 2}, []string{}, false},
		{1, []int{1, 1, 1, 2, 3}, []string{"3"}, false},
		{1, []int{1, 1, 1, 1, 3}, nil, true},
		{3, []int{1, 2, 2}, []string{"2"}, false},
		{4, []int{2, 2}, []string{"2"}, false},
		{5, []int{2, 3}, []string{"2", "3"}, false},
		{6, []int{2, 3}, nil, true},
	} {
		d := disk.New()
		h, _ := hard.Open(d, "hard")
		h.Put(5, 0)
		s, _ := snaps.Open(d, "snap")
		s.Save(api.Snapshot{Index: 4, Term: 2, Set: 3})
		w, _, _ := wal.Open(d, "log")
		w.Begin(x.first)
		var l []api.Entry
		for _, term := range x.terms {
			l = append(l, at(term))
		}
		w.Append(x.first, l)
		k := open(t, d, 7)
		stands(t, k, 4, x.left...)
		if k.Node().Set() != 3 || k.Node().Commit() != 4 || k.Node().Snap().Index != 4 {
			t.Error(n)
		}
		w, _, _ = wal.Open(d, "log")
		if len(w.Entries()) == 0 != x.begun {
			t.Error(n, w.Entries())
		}
		// what is proposed goes on behind the snapshot
		k.Tick(elect)
		k.Hear(api.Message{Kind: api.MsgVoteTell, From: 2, To: 1, Term: 6, Ok: true}, elect)
		w, _, _ = wal.Open(d, "log")
		if !k.Node().Leads() || w.Last() != 5+len(x.left) {
			t.Error(n, w.Last())
		}
	}
}

func TestSteps(t *testing.T) { // P14.2
	d := disk.New()
	k := alone(t, d, "a", "b")
	if k.Node().Commit() != 3 {
		t.Error(k.Node().Commit())
	}
	index, l, e := k.Propose(api.Entry{Kind: 9}, elect)
	if index != 0 || l != nil || e != api.ErrArg || k.Down() {
		t.Error(index, l, e)
	}
	d.Crash(nil)
	d.Open()
	k = open(t, d, 1)
	stands(t, k, 0, "", "a", "b")
	f := open(t, disk.New(), 7)
	if index, l, e := f.Propose(cmd("x"), 5); index != 0 || l != nil || e != api.ErrLeader {
		t.Error(index, l, e)
	}
	l, snap, e := f.Hear(api.Message{Kind: api.MsgAppendAsk, From: 2, To: 1, Term: 3, Entries: []api.Entry{{Term: 3}}}, 5)
	if len(l) != 1 || !l[0].Ok || l[0].Index != 1 || snap || e != api.OK {
		t.Error(l, snap, e)
	}
	l, snap, e = f.Hear(api.Message{Kind: api.MsgSnapAsk, From: 2, To: 1, Term: 3, Snap: api.Snapshot{Index: 9, Term: 2, Set: 3}}, 5)
	if len(l) != 1 || !l[0].Ok || !snap || e != api.OK {
		t.Error(l, snap, e)
	}
	stands(t, f, 9)
	d = disk.New()
	f = open(t, d, 7)
	l3 := []api.Entry{{Term: 3, Kind: api.EntryCommand, Data: []byte("a")}, {Term: 3, Kind: api.EntryCommand, Data: []byte("b")}, {Term: 3, Kind: api.EntryCommand, Data: []byte("c")}}
	f.Hear(api.Message{Kind: api.MsgAppendAsk, From: 2, To: 1, Term: 3, Entries: l3}, 5)
	f.Hear(api.Message{Kind: api.MsgSnapAsk, From: 2, To: 1, Term: 3, Snap: api.Snapshot{Index: 2, Term: 3, Set: 3}}, 5)
	stands(t, f, 2, "c")
	d.Crash(nil)
	d.Open()
	stands(t, open(t, d, 7), 2, "c")
	d = disk.New()
	f = open(t, d, 7)
	f.Hear(api.Message{Kind: api.MsgAppendAsk, From: 2, To: 1, Term: 3, Entries: l3}, 5)
	f.Hear(api.Message{Kind: api.MsgSnapAsk, From: 2, To: 1, Term: 4, Snap: api.Snapshot{Index: 2, Term: 4, Set: 3}}, 5)
	stands(t, f, 2)
	l, _, e = f.Hear(api.Message{Kind: api.MsgAppendAsk, From: 2, To: 1, Term: 4, Index: 2, Last: 4, Entries: []api.Entry{{Term: 4, Kind: api.EntryCommand, Data: []byte("d")}}}, 5)
	if len(l) != 1 || !l[0].Ok || l[0].Index != 3 || e != api.OK {
		t.Error(l, e)
	}
	d.Crash(nil)
	d.Open()
	stands(t, open(t, d, 7), 2, "d")
}

// TestCompactOfAnotherSet: the set of a snapshot is what the entries behind it stand on.
func TestCompactOfAnotherSet(t *testing.T) { // P14.3
	k := open(t, disk.New(), 7)
	k.Hear(api.Message{Kind: api.MsgSnapAsk, From: 2, To: 1, Term: 1, Snap: api.Snapshot{Index: 2, Term: 1, Set: 3}}, 5)
	k.Hear(api.Message{Kind: api.MsgAppendAsk, From: 2, To: 1, Term: 1, Index: 2, Last: 1, Commit: 3, Entries: []api.Entry{{Term: 1}}}, 5)
	if k.Compact(api.Snapshot{Index: 3, Term: 1, Set: 7}) != api.ErrArg || k.Compact(api.Snapshot{Index: 3, Term: 1, Set: 3}) != api.OK {
		t.Error("the set")
	}
}

func TestNilAndDown(t *testing.T) { // P14.1 to P14.3
	for _, k := range []*keeper.Keeper{nil, {}} {
		_, a := k.Tick(5)
		_, _, b := k.Hear(api.Message{}, 5)
		_, _, c := k.Propose(api.Entry{}, 5)
		if a != api.ErrNil || b != api.ErrNil || c != api.ErrNil || k.Compact(api.Snapshot{}) != api.ErrNil || k.Node() != nil || k.Down() {
			t.Error("nil")
		}
	}
	for calls := range 3 { // a term's append and sync, the log's append
		d := disk.New()
		k := open(t, d, 1)
		d.Arm(calls, nil)
		if l, e := k.Tick(elect); l != nil || e != api.ErrDown || !k.Down() {
			t.Error(calls, l, e)
		}
		_, a := k.Tick(5)
		_, snap, b := k.Hear(api.Message{}, 5)
		_, _, c := k.Propose(api.Entry{}, 5)
		if a != api.ErrDown || b != api.ErrDown || c != api.ErrDown || snap || k.Compact(api.Snapshot{}) != api.ErrDown {
			t.Error("down")
		}
	}
	d := disk.New()
	k := alone(t, d, "a")
	d.Arm(1, nil)
	if index, l, e := k.Propose(cmd("b"), elect); index != 0 || l != nil || e != api.ErrDown || !k.Down() {
		t.Error(index, l, e)
	}
	d.Open()
	stands(t, open(t, d, 1), 0, "", "a")
}

func TestCompact(t *testing.T) { // P14.3
	d := disk.New()
	k := alone(t, d, "a", "b", "c", "d", "e", "f", "g", "h", "i")
	k.Propose(api.Entry{Kind: api.EntrySet, Set: 3}, elect) // of two nodes: it is not committed
	for n, s := range []api.Snapshot{{}, {Index: 11, Term: 1, Set: 1}, {Index: 9, Term: 2, Set: 1}, {Index: 9, Term: 1, Set: 3}, {Index: 9, Term: 1}, {Index: 0, Term: 1, Set: 1}, {Index: 99, Term: 1, Set: 1}} {
		if e := k.Compact(s); e != api.ErrArg || k.Down() || k.Node().Rows().Base != 0 {
			t.Error(n, e)
		}
	}
	c := d.Copy()
	s := api.Snapshot{Index: 9, Term: 1, Set: 1, Data: []byte("x")}
	if e := k.Compact(s); e != api.OK {
		t.Error(e)
	}
	stands(t, k, 9, "i", "")
	if l := d.Names(); !slices.Equal(l, []string{"hard.a", "log.1", "snap"}) {
		t.Error(l)
	}
	if k.Compact(s) != api.ErrArg || k.Compact(api.Snapshot{Index: 10, Term: 1, Set: 1}) != api.OK {
		t.Error("again")
	}
	k = open(t, c, 1)
	k.Tick(elect) // alone no more, by its last entry
	c.Crash(nil)
	if k.Compact(s) != api.ErrArg || k.Down() {
		t.Error("not committed")
	}
	c.Open()
	d = disk.New()
	k = alone(t, d, "a")
	d.Arm(1, nil)
	if k.Compact(api.Snapshot{Index: 2, Term: 1, Set: 1}) != api.ErrDown || !k.Down() || k.Node().Rows().Base != 0 {
		t.Error("down")
	}
	d.Open()
	stands(t, open(t, d, 1), 0, "", "a")
}

// same is whether a node's rows are what a crash may leave of those ahead of a step: they, or cut, with a piece of what was under way.
func same(is, was, next api.Rows) bool {
	if is.Base != was.Base {
		return false
	}
	k := 0
	for k < len(was.Entries) && k < len(next.Entries) && reflect.DeepEqual(was.Entries[k], next.Entries[k]) {
		k++
	}
	n := len(is.Entries)
	return rows.Same(is, was) || n >= k && n <= len(next.Entries) && rows.Same(is, api.Rows{Base: next.Base, Term: next.Term, Entries: next.Entries[:n]})
}
