package raft_test

import (
	"math"
	"reflect"
	"testing"

	"weir/api"
	"weir/raft"
)

const (
	elect = 100
	beat  = 10
)

func setup(self int, set uint8) api.Setup {
	return api.Setup{Self: self, Set: set, Elect: elect, Beat: beat, Draws: []int{0, 30}}
}

// entries makes commands of these terms.
func entries(terms ...int) []api.Entry {
	var l []api.Entry
	for _, t := range terms {
		l = append(l, api.Entry{Term: t, Kind: api.EntryCommand, Data: []byte{byte(t)}})
	}
	return l
}

func fresh(t *testing.T, c api.Setup, h api.Hard, r api.Rows, snap api.Snapshot) *raft.Node {
	t.Helper()
	n, e := raft.New(c, h, r, snap, 0)
	if e != api.OK {
		t.Fatal(e)
	}
	return n
}

// follower is node 1 of 1 2 3, of a term, with entries of these terms.
func follower(t *testing.T, term int, terms ...int) *raft.Node {
	t.Helper()
	return fresh(t, setup(1, 7), api.Hard{Term: term}, api.Rows{Entries: entries(terms...)}, api.Snapshot{})
}

// leading is node 1 of 1 2 3 that was elected at 100 behind a term.
func leading(t *testing.T, term int, terms ...int) *raft.Node {
	t.Helper()
	n := follower(t, term, terms...)
	n.Tick(elect)
	n.Hear(api.Message{Kind: api.MsgVoteTell, From: 2, To: 1, Term: term + 1, Ok: true}, elect)
	if !n.Leads() {
		t.Fatal("no leader")
	}
	return n
}

// is fails unless what a step asks for is just this.
func is(t *testing.T, what string, got, want api.Effect) {
	t.Helper()
	if len(got.Add) == 0 {
		got.Add = nil
	}
	for k := range got.Send {
		if len(got.Send[k].Entries) == 0 {
			got.Send[k].Entries = nil
		}
	}
	if !reflect.DeepEqual(got, want) {
		t.Errorf("%s:\n%+v; want\n%+v", what, got, want)
	}
}

func termsOf(r api.Rows) []int {
	l := []int{}
	for _, x := range r.Entries {
		l = append(l, x.Term)
	}
	return l
}

// looks fails unless a node stands so.
func looks(t *testing.T, what string, n *raft.Node, h api.Hard, base int, terms []int, commit, leader int, leads bool) {
	t.Helper()
	r := n.Rows()
	if n.Hard() != h || r.Base != base || !reflect.DeepEqual(termsOf(r), terms) || n.Commit() != commit || n.Leader() != leader || n.Leads() != leads {
		t.Errorf("%s: %v %d %v commit %d leader %d %v", what, n.Hard(), r.Base, termsOf(r), n.Commit(), n.Leader(), n.Leads())
	}
}

func TestNew(t *testing.T) { // P13.1
	good := func() (api.Setup, api.Hard, api.Rows, api.Snapshot) {
		return setup(1, 7), api.Hard{Term: 4, Vote: 2, Boot: 1}, api.Rows{Base: 5, Term: 2, Entries: entries(2, 3)}, api.Snapshot{Index: 5, Term: 2, Set: 3, Data: []byte{1}}
	}
	for k := range 30 {
		c, h, r, s := good()
		want := api.ErrArg
		switch k {
		case 0:
			c.Self = 0
		case 1:
			c.Self = 8
		case 2:
			c.Set = 0
		case 3:
			c.Set = 129
		case 4:
			c.Elect = 0
		case 5:
			c.Elect = 1<<40 + 1
		case 6:
			c.Beat = 0
		case 7:
			c.Beat = math.MaxInt
		case 8:
			c.Draws = make([]int, 65)
		case 9:
			h.Term = -1
		case 10:
			h.Vote = -1
		case 11:
			h.Boot = -1
		case 12:
			s.Set = 0
		case 13:
			s.Data = make([]byte, api.MaxText-16)
		case 14:
			s.Index = 6
		case 15:
			s.Term = 3
		case 16:
			s = api.Snapshot{}
		case 17:
			r, s = api.Rows{Entries: entries(1)}, api.Snapshot{Data: []byte{1}}
		case 18:
			r.Entries[0].Term, want = 1, api.ErrRows
		case 19:
			r.Entries[0].Stamp, want = -1, api.ErrRows
		case 20:
			r.Base, r.Term = 0, 0
		case 21:
			c.Draws, want = make([]int, 64), api.OK
		case 22:
			c.Elect, c.Beat, want = 1<<40, 1<<40, api.OK
		case 23:
			r, s, want = api.Rows{}, api.Snapshot{Data: []byte{}}, api.OK
		case 24:
			c.Self, want = 7, api.OK
		case 25:
			want = api.OK
		case 26:
			c.Elect, c.Beat, want = 1, 1, api.OK
		case 27:
			r, s = api.Rows{}, api.Snapshot{Set: 1}
		case 28:
			s.Data, want = make([]byte, api.MaxText-17), api.OK
		case 29:
			r, s = api.Rows{Entries: entries(1)}, api.Snapshot{Set: 1, Data: []byte{1}}
		}
		n, e := raft.New(c, h, r, s, 0)
		if e != want || (n == nil) != (e != api.OK) {
			t.Error(k, e)
		}
	}
	c, h, r, s := good()
	n := fresh(t, c, h, r, s)
	looks(t, "new", n, h, 5, []int{2, 3}, 5, 0, false)
	if n.Set() != 3 || !reflect.DeepEqual(n.Snap(), s) || fresh(t, c, h, api.Rows{}, api.Snapshot{}).Set() != 7 {
		t.Error("set, snap")
	}
}

func TestNil(t *testing.T) { // P13.2 to P13.4
	var n *raft.Node
	is(t, "tick", n.Tick(5), api.Effect{Cut: -1})
	is(t, "hear", n.Hear(api.Message{}, 5), api.Effect{Cut: -1})
	index, x, e := n.Propose(api.Entry{}, 5)
	is(t, "propose", x, api.Effect{Cut: -1})
	if index != 0 || e != api.ErrNil || n.Compact(api.Snapshot{}) != api.ErrNil || n.Set() != 0 || n.Snap().Index != 0 {
		t.Error(index, e)
	}
	looks(t, "nil", n, api.Hard{}, 0, []int{}, 0, 0, false)
}

func TestElection(t *testing.T) { // P13.2
	n := follower(t, 3, 1, 2)
	is(t, "ahead of it", n.Tick(elect-1), api.Effect{Cut: -1})
	ask := func(to, term int) api.Message {
		return api.Message{Kind: api.MsgVoteAsk, From: 1, To: to, Term: term, Index: 2, Last: 2}
	}
	is(t, "at it", n.Tick(elect), api.Effect{Hard: true, Cut: -1, Send: []api.Message{ask(2, 4), ask(3, 4)}})
	looks(t, "candidate", n, api.Hard{Term: 4, Vote: 1}, 0, []int{1, 2}, 0, 0, false)
	is(t, "the second draw", n.Tick(elect+elect+29), api.Effect{Cut: -1})
	is(t, "again", n.Tick(elect+elect+30), api.Effect{Hard: true, Cut: -1, Send: []api.Message{ask(2, 5), ask(3, 5)}})
	tell := api.Message{Kind: api.MsgVoteTell, From: 3, To: 1, Term: 4, Ok: true}
	is(t, "an old vote", n.Hear(tell, 231), api.Effect{Cut: -1})
	tell.Term, tell.Ok = 5, false
	is(t, "no vote", n.Hear(tell, 231), api.Effect{Cut: -1})
	tell.Ok = true
	none := api.Entry{Term: 5}
	send := func(to, commit int) api.Message {
		return api.Message{Kind: api.MsgAppendAsk, From: 1, To: to, Term: 5, Index: 2, Last: 2, Entries: []api.Entry{none}, Commit: commit}
	}
	is(t, "it leads", n.Hear(tell, 231), api.Effect{Cut: 2, Add: []api.Entry{none}, Send: []api.Message{send(2, 0), send(3, 0)}})
	looks(t, "leader", n, api.Hard{Term: 5, Vote: 1}, 0, []int{1, 2, 5}, 0, 1, true)
	is(t, "a vote more", n.Hear(api.Message{Kind: api.MsgVoteTell, From: 2, To: 1, Term: 5, Ok: true}, 232), api.Effect{Cut: -1})
	is(t, "no beat", n.Tick(240), api.Effect{Cut: -1})
	is(t, "beat", n.Tick(241), api.Effect{Cut: -1, Send: []api.Message{send(2, 0), send(3, 0)}})
	is(t, "no beat", n.Tick(250), api.Effect{Cut: -1})
	is(t, "beat", n.Tick(999), api.Effect{Cut: -1, Send: []api.Message{send(2, 0), send(3, 0)}})
}

func TestAlone(t *testing.T) { // P13.2
	n := fresh(t, setup(3, 4), api.Hard{}, api.Rows{}, api.Snapshot{})
	is(t, "alone", n.Tick(elect), api.Effect{Hard: true, Cut: 0, Add: []api.Entry{{Term: 1}}, Commit: 1})
	looks(t, "alone", n, api.Hard{Term: 1, Vote: 3}, 0, []int{1}, 1, 3, true)
	out := fresh(t, setup(4, 7), api.Hard{}, api.Rows{}, api.Snapshot{})
	is(t, "not in its set", out.Tick(elect), api.Effect{Cut: -1})
	looks(t, "not in its set", out, api.Hard{}, 0, []int{}, 0, 0, false)
	one := fresh(t, setup(1, 1), api.Hard{}, api.Rows{}, api.Snapshot{})
	one.Tick(elect)
	index, x, e := one.Propose(api.Entry{Kind: api.EntryCommand, Stamp: 7}, elect)
	is(t, "alone", x, api.Effect{Cut: 1, Add: []api.Entry{{Term: 1, Kind: api.EntryCommand, Stamp: 7}}, Commit: 2})
	if index != 2 || e != api.OK {
		t.Error(index, e)
	}
	c := setup(1, 1)
	c.Draws = nil
	none := fresh(t, c, api.Hard{}, api.Rows{}, api.Snapshot{})
	is(t, "no draws", none.Tick(elect-1), api.Effect{Cut: -1})
	if none.Tick(elect); !none.Leads() {
		t.Error("no draws")
	}
	full := make([]int, api.MaxEntries)
	for k := range full {
		full[k] = 1
	}
	n = fresh(t, setup(1, 1), api.Hard{Term: 1}, api.Rows{Entries: entries(full...)}, api.Snapshot{})
	is(t, "full", n.Tick(elect), api.Effect{Hard: true, Cut: -1})
	if index, x, e := n.Propose(api.Entry{Kind: api.EntryCommand}, 0); index != 0 || e != api.ErrLong || x.Cut != -1 || x.Commit != 0 {
		t.Error(index, x, e)
	}
	if _, _, e := n.Propose(api.Entry{Kind: api.EntryCommand, Stamp: -1}, 0); e != api.ErrArg {
		t.Error(e)
	}
}

func TestNotHeard(t *testing.T) { // P13.2
	n := follower(t, 3, 1)
	good := api.Message{Kind: api.MsgVoteAsk, From: 2, To: 1, Term: 9, Index: 9, Last: 9}
	for k := range 9 {
		m := good
		switch k {
		case 0:
			m.From = 1
		case 1:
			m.From = 0
		case 2:
			m.From = 8
		case 3:
			m.To = 2
		case 4:
			m.Kind = 0
		case 5:
			m.Kind = api.MsgCall
		case 6:
			m.Kind = -5
		case 7:
			m.Term = 0
		case 8:
			m.Term = math.MinInt
		}
		is(t, "not heard", n.Hear(m, 5), api.Effect{Cut: -1})
		looks(t, "not heard", n, api.Hard{Term: 3}, 0, []int{1}, 0, 0, false)
	}
}

func TestVoteAsk(t *testing.T) { // P13.2
	n := follower(t, 3, 1, 2)
	tell := api.Message{Kind: api.MsgVoteTell, From: 1, To: 2, Term: 4}
	is(t, "older", n.Hear(api.Message{Kind: api.MsgVoteAsk, From: 2, To: 1, Term: 4, Index: 9, Last: 1}, 50), api.Effect{Hard: true, Cut: -1, Send: []api.Message{tell}})
	tell.Ok = true
	is(t, "given", n.Hear(api.Message{Kind: api.MsgVoteAsk, From: 2, To: 1, Term: 4, Index: 2, Last: 2}, 60), api.Effect{Hard: true, Cut: -1, Send: []api.Message{tell}})
	tell.To, tell.Ok = 3, false
	is(t, "given to another", n.Hear(api.Message{Kind: api.MsgVoteAsk, From: 3, To: 1, Term: 4, Index: 2, Last: 2}, 70), api.Effect{Cut: -1, Send: []api.Message{tell}})
	is(t, "a lesser term", n.Hear(api.Message{Kind: api.MsgVoteAsk, From: 3, To: 1, Term: 2, Index: 2, Last: 2}, 70), api.Effect{Cut: -1, Send: []api.Message{tell}})
	looks(t, "voted", n, api.Hard{Term: 4, Vote: 2}, 0, []int{1, 2}, 0, 0, false)
	is(t, "the deadline began anew", n.Tick(60+elect+29), api.Effect{Cut: -1})
	if x := n.Tick(60 + elect + 30); len(x.Send) != 2 || x.Send[0].Term != 5 {
		t.Error(x)
	}
	l := leading(t, 3)
	if x := l.Hear(api.Message{Kind: api.MsgVoteAsk, From: 3, To: 1, Term: 4, Index: 9, Last: 9}, 120); x.Send[0].Ok || !l.Leads() {
		t.Error("a leader votes", x)
	}
	if x := l.Hear(api.Message{Kind: api.MsgVoteAsk, From: 3, To: 1, Term: 5, Index: 9, Last: 9}, 120); !x.Send[0].Ok || l.Leads() || l.Leader() != 0 {
		t.Error("a leader that hears a greater term", x)
	}
}

func TestAppendAsk(t *testing.T) { // P13.2
	ask := func(term, index, last, commit int, terms ...int) api.Message {
		return api.Message{Kind: api.MsgAppendAsk, From: 3, To: 1, Term: term, Index: index, Last: last, Commit: commit, Entries: entries(terms...)}
	}
	tell := func(term, index int, ok bool) []api.Message {
		return []api.Message{{Kind: api.MsgAppendTell, From: 1, To: 3, Term: term, Index: index, Ok: ok}}
	}
	n := follower(t, 3, 1, 1, 2)
	is(t, "a lesser term", n.Hear(ask(2, 3, 2, 3), 50), api.Effect{Cut: -1, Send: tell(3, 3, false)})
	looks(t, "a lesser term", n, api.Hard{Term: 3}, 0, []int{1, 1, 2}, 0, 0, false)
	is(t, "not ok", n.Hear(ask(3, 3, 3, 3), 50), api.Effect{Cut: -1, Send: tell(3, 2, false)})
	is(t, "too far", n.Hear(ask(3, 9, 3, 3), 50), api.Effect{Cut: -1, Send: tell(3, 3, false)})
	is(t, "rotten", n.Hear(ask(3, -1, 3, 3), 50), api.Effect{Cut: -1, Send: tell(3, 3, false)})
	looks(t, "leader known", n, api.Hard{Term: 3}, 0, []int{1, 1, 2}, 0, 3, false)
	is(t, "one more", n.Hear(ask(3, 3, 2, 2, 3), 50), api.Effect{Cut: 3, Add: entries(3), Send: tell(3, 4, true), Commit: 2})
	is(t, "again", n.Hear(ask(3, 3, 2, 1, 3), 50), api.Effect{Cut: -1, Send: tell(3, 4, true), Commit: 2})
	is(t, "commit above what is the same", n.Hear(ask(3, 2, 1, 9, 2), 60), api.Effect{Cut: -1, Send: tell(3, 3, true), Commit: 3})
	is(t, "others, a greater term", n.Hear(ask(5, 3, 2, 0, 5, 5), 70), api.Effect{Hard: true, Cut: 3, Add: entries(5, 5), Send: tell(5, 5, true), Commit: 3})
	looks(t, "behind", n, api.Hard{Term: 5}, 0, []int{1, 1, 2, 5, 5}, 3, 3, false)
	if x := n.Tick(70 + elect - 1); len(x.Send) != 0 {
		t.Error("the deadline", x)
	}
	if n.Tick(70 + elect + 30); n.Leader() != 0 || n.Hard().Term != 6 {
		t.Error("a candidate knows no leader", n.Leader(), n.Hard())
	}
	l := leading(t, 3, 1)
	l.Hear(ask(4, 0, 0, 0), 120)
	looks(t, "a leader that hears one of its term", l, api.Hard{Term: 4, Vote: 1}, 0, []int{1, 4}, 0, 3, false)
	c := follower(t, 3, 1)
	c.Tick(elect)
	c.Hear(ask(4, 1, 1, 0), 120)
	c.Hear(api.Message{Kind: api.MsgVoteTell, From: 2, To: 1, Term: 4, Ok: true}, 130)
	looks(t, "a candidate that hears a leader", c, api.Hard{Term: 4, Vote: 1}, 0, []int{1}, 0, 3, false)
}

// TestCut: behind which index rows are others than they were, where they grow, where some go, and where they stay, on a snapshot too.
func TestCut(t *testing.T) { // P13.2
	ask := func(term, index, last int, terms ...int) api.Message {
		return api.Message{Kind: api.MsgAppendAsk, From: 2, To: 1, Term: term, Index: index, Last: last, Entries: entries(terms...)}
	}
	on := api.Snapshot{Index: 10, Term: 2, Set: 7}
	n := fresh(t, setup(1, 7), api.Hard{Term: 3}, api.Rows{Base: 10, Term: 2}, on)
	for _, x := range []struct {
		what string
		m    api.Message
		cut  int
		add  []api.Entry
	}{
		{"behind none", ask(3, 10, 2, 2, 2, 3), 10, entries(2, 2, 3)},
		{"nothing", ask(3, 13, 3), -1, nil},
		{"the same", ask(3, 10, 2, 2, 2, 3), -1, nil},
		{"the first of them", ask(3, 10, 2, 2), -1, nil},
		{"behind the last", ask(4, 13, 3, 4), 13, entries(4)},
		{"the same, and one more", ask(4, 12, 2, 3, 4, 4), 14, entries(4)},
		{"from below the base", ask(4, 9, 2, 2, 2, 2, 3, 4, 4, 4), 15, entries(4)},
		{"not ok", ask(5, 16, 5, 5), -1, nil},
		{"others than the last", ask(5, 15, 4, 5), 15, entries(5)},
		{"others than some, fewer", ask(6, 11, 2, 2, 6), 12, entries(6)},
		{"others than all", ask(7, 10, 2, 7), 10, entries(7)},
	} {
		if got := n.Hear(x.m, 5); got.Cut != x.cut || !reflect.DeepEqual(got.Add, x.add) {
			t.Error(x.what, got)
		}
	}
	alone := fresh(t, setup(1, 1), api.Hard{Term: 3}, api.Rows{Base: 10, Term: 2, Entries: entries(2)}, api.Snapshot{Index: 10, Term: 2, Set: 1})
	if x := alone.Tick(elect); x.Cut != 11 || len(x.Add) != 1 {
		t.Error("it leads", x)
	}
	if index, x, e := alone.Propose(api.Entry{Kind: api.EntrySet, Set: 3}, elect); index != 13 || x.Cut != 12 || len(x.Add) != 1 || e != api.OK {
		t.Error("a set", index, x, e)
	}
}

func TestAppendTell(t *testing.T) { // P13.2
	tell := func(from, index int, ok bool) api.Message {
		return api.Message{Kind: api.MsgAppendTell, From: from, To: 1, Term: 4, Index: index, Ok: ok}
	}
	l := leading(t, 3, 1, 2)
	send := func(to, index, last, commit int, l ...api.Entry) []api.Message {
		return []api.Message{{Kind: api.MsgAppendAsk, From: 1, To: to, Term: 4, Index: index, Last: last, Entries: l, Commit: commit}}
	}
	old := entries(1, 2)
	is(t, "not ok", l.Hear(tell(2, 1, false), 110), api.Effect{Cut: -1, Send: send(2, 1, 1, 0, old[1], api.Entry{Term: 4})})
	is(t, "not ok", l.Hear(tell(2, 0, false), 110), api.Effect{Cut: -1, Send: send(2, 0, 0, 0, old[0], old[1], api.Entry{Term: 4})})
	is(t, "an old entry", l.Hear(tell(2, 2, true), 110), api.Effect{Cut: -1, Send: send(2, 2, 2, 0, api.Entry{Term: 4})})
	is(t, "beyond the last", l.Hear(tell(2, 99, true), 110), api.Effect{Cut: -1, Commit: 3})
	looks(t, "committed", l, api.Hard{Term: 4, Vote: 1}, 0, []int{1, 2, 4}, 3, 1, true)
	if x := l.Tick(110); len(x.Send) != 2 || x.Send[0].Index != 3 {
		t.Error("next of what is beyond the last", x)
	}
	is(t, "of one that is not known", l.Hear(tell(7, 0, false), 110), api.Effect{Cut: -1, Send: send(7, 0, 0, 3, old[0], old[1], api.Entry{Term: 4}), Commit: 3})
	m := tell(3, 0, false)
	m.Term = 3
	is(t, "of an old term", l.Hear(m, 110), api.Effect{Cut: -1, Commit: 3})
	f := follower(t, 4, 1)
	is(t, "of no leader", f.Hear(tell(2, 1, true), 5), api.Effect{Cut: -1})
}

func TestPropose(t *testing.T) { // P13.3
	n := follower(t, 3, 1)
	cmd := api.Entry{Term: 77, Kind: api.EntryCommand, Stamp: 5, Data: []byte("x")}
	if index, x, e := n.Propose(cmd, 5); index != 0 || e != api.ErrLeader || x.Cut != -1 {
		t.Error(index, x, e)
	}
	l := leading(t, 3, 1)
	for _, x := range []struct {
		x    api.Entry
		want api.Errno
	}{
		{api.Entry{}, api.ErrArg}, {api.Entry{Kind: 9}, api.ErrArg}, {api.Entry{Kind: api.EntryCommand, Stamp: -1}, api.ErrArg}, {api.Entry{Kind: api.EntryCommand, Set: 1}, api.ErrArg}, {api.Entry{Kind: api.EntrySet}, api.ErrArg},
		{api.Entry{Kind: api.EntrySet, Set: 15}, api.ErrBusy}, {api.Entry{Kind: api.EntryCommand, Data: make([]byte, api.MaxData+1)}, api.ErrArg},
	} {
		if index, f, e := l.Propose(x.x, 105); index != 0 || e != x.want || !reflect.DeepEqual(f, api.Effect{Cut: -1}) {
			t.Error(x, index, f, e)
		}
	}
	index, x, e := l.Propose(cmd, 105)
	cmd.Term = 4
	send := func(to, commit, index, last int, l ...api.Entry) api.Message {
		return api.Message{Kind: api.MsgAppendAsk, From: 1, To: to, Term: 4, Index: index, Last: last, Entries: l, Commit: commit}
	}
	is(t, "propose", x, api.Effect{Cut: 2, Add: []api.Entry{cmd}, Send: []api.Message{send(2, 0, 1, 1, api.Entry{Term: 4}, cmd), send(3, 0, 1, 1, api.Entry{Term: 4}, cmd)}})
	if index != 3 || e != api.OK {
		t.Error(index, e)
	}
	l.Hear(api.Message{Kind: api.MsgAppendTell, From: 2, To: 1, Term: 4, Index: 3, Ok: true}, 106)
	for _, set := range []uint8{7, 9, 31, 128, 135} {
		if _, _, e := l.Propose(api.Entry{Kind: api.EntrySet, Set: set}, 107); e != api.ErrArg {
			t.Error(set, e)
		}
	}
	index, x, e = l.Propose(api.Entry{Kind: api.EntrySet, Set: 15}, 107)
	if index != 4 || e != api.OK || len(x.Send) != 3 || x.Send[2].To != 4 || l.Set() != 15 {
		t.Error(index, x, e)
	}
	if x.Send[2].Index != 4 || len(x.Send[2].Entries) != 0 {
		t.Error("to the new one", x.Send[2])
	}
	if _, _, e = l.Propose(api.Entry{Kind: api.EntrySet, Set: 7}, 107); e != api.ErrBusy {
		t.Error(e)
	}
}

func TestLeavesItsSet(t *testing.T) { // P13.2
	l := leading(t, 3)
	told := func(from, index int) api.Effect {
		return l.Hear(api.Message{Kind: api.MsgAppendTell, From: from, To: 1, Term: 4, Index: index, Ok: true}, 106)
	}
	told(2, 1)
	if index, _, e := l.Propose(api.Entry{Kind: api.EntrySet, Set: 6}, 107); index != 2 || e != api.OK || !l.Leads() {
		t.Error(index, e)
	}
	if x := told(2, 2); x.Commit != 1 || !l.Leads() {
		t.Error(x)
	}
	if x := told(3, 2); x.Commit != 2 || l.Leads() || l.Leader() != 0 {
		t.Error(x, l.Leader())
	}
	is(t, "not in its set", l.Tick(100000), api.Effect{Cut: -1, Commit: 2})
}

func TestSnapAsk(t *testing.T) { // P13.2
	tell := func(term, index int, ok bool) []api.Message {
		return []api.Message{{Kind: api.MsgAppendTell, From: 1, To: 3, Term: term, Index: index, Ok: ok}}
	}
	ask := func(term int, s api.Snapshot) api.Message {
		return api.Message{Kind: api.MsgSnapAsk, From: 3, To: 1, Term: term, Snap: s}
	}
	snap := func(index, term int) api.Snapshot {
		return api.Snapshot{Index: index, Term: term, Set: 3, Data: []byte{9}}
	}
	n := follower(t, 3, 1, 1, 2)
	is(t, "a lesser term", n.Hear(ask(2, snap(2, 1)), 5), api.Effect{Cut: -1, Send: tell(3, 3, false)})
	is(t, "may not be", n.Hear(ask(3, api.Snapshot{Index: 2, Term: 1}), 5), api.Effect{Cut: -1, Send: tell(3, 3, false)})
	looks(t, "may not be", n, api.Hard{Term: 3}, 0, []int{1, 1, 2}, 0, 3, false)
	for k, s := range []api.Snapshot{{Index: 2, Set: 3}, {Term: 1, Set: 3}, {Index: -1, Term: 1, Set: 3}, {Index: 2, Term: -1, Set: 3}, {Index: 2, Term: 1, Set: 3, Data: make([]byte, api.MaxText-16)}} {
		is(t, "may not be", n.Hear(ask(3, s), 5), api.Effect{Cut: -1, Send: tell(3, 3, false)})
		if n.Commit() != 0 {
			t.Fatal(k)
		}
	}
	big := follower(t, 3)
	if x := big.Hear(ask(3, api.Snapshot{Index: 2, Term: 1, Set: 3, Data: make([]byte, api.MaxText-17)}), 5); !x.Snap {
		t.Error("the greatest one")
	}
	is(t, "of its rows", n.Hear(ask(3, snap(2, 1)), 5), api.Effect{Cut: -1, Snap: true, Send: tell(3, 2, true), Commit: 2})
	looks(t, "of its rows", n, api.Hard{Term: 3}, 2, []int{2}, 2, 3, false)
	if n.Set() != 3 || !reflect.DeepEqual(n.Snap(), snap(2, 1)) {
		t.Error(n.Set(), n.Snap())
	}
	is(t, "an old one", n.Hear(ask(3, snap(1, 1)), 5), api.Effect{Cut: -1, Send: tell(3, 1, true), Commit: 2})
	is(t, "of another term", n.Hear(ask(4, snap(3, 3)), 5), api.Effect{Hard: true, Cut: -1, Snap: true, Send: tell(4, 3, true), Commit: 3})
	looks(t, "of another term", n, api.Hard{Term: 4}, 3, []int{}, 3, 3, false)
	if r := n.Rows(); r.Term != 3 {
		t.Error("the term of what it stands on", r.Term)
	}
	f := follower(t, 3, 1, 1, 2)
	f.Hear(ask(4, snap(2, 4)), 5)
	looks(t, "what stood behind another term", f, api.Hard{Term: 4}, 2, []int{}, 2, 3, false)
	far := snap(1<<41, 3)
	is(t, "however great", n.Hear(ask(4, far), 5), api.Effect{Cut: -1, Snap: true, Send: tell(4, 1<<41, true), Commit: 1 << 41})
	looks(t, "however great", n, api.Hard{Term: 4}, 1<<41, []int{}, 1<<41, 3, false)
	if n.Set() != 3 {
		t.Error(n.Set())
	}
	n.Tick(1 << 50)
	n.Hear(api.Message{Kind: api.MsgVoteAsk, From: 2, To: 1, Term: 9}, 6)
	n.Hear(api.Message{Kind: api.MsgAppendAsk, From: 2, To: 1, Term: 9}, 6)
}

func TestCompact(t *testing.T) { // P13.4
	l := leading(t, 3, 1, 2)
	l.Hear(api.Message{Kind: api.MsgAppendTell, From: 2, To: 1, Term: 4, Index: 3, Ok: true}, 106)
	l.Propose(api.Entry{Kind: api.EntrySet, Set: 15}, 107)
	l.Hear(api.Message{Kind: api.MsgAppendTell, From: 2, To: 1, Term: 4, Index: 4, Ok: true}, 108)
	for k, s := range []api.Snapshot{{}, {Index: 4, Term: 4, Set: 15}, {Index: 3, Term: 3, Set: 7}, {Index: 3, Term: 4, Set: 15}, {Index: 3, Term: 4, Set: 7, Data: make([]byte, api.MaxText)}, {Index: math.MaxInt, Term: 4, Set: 7}, {Index: -1, Term: 4, Set: 7}} {
		if e := l.Compact(s); e != api.ErrArg {
			t.Error(k, e)
		}
	}
	s := api.Snapshot{Index: 2, Term: 2, Set: 7, Data: []byte("state")}
	if l.Compact(s) != api.OK || l.Compact(s) != api.ErrArg {
		t.Error("compact")
	}
	looks(t, "compact", l, api.Hard{Term: 4, Vote: 1}, 2, []int{4, 4}, 3, 1, true)
	x := l.Hear(api.Message{Kind: api.MsgAppendTell, From: 3, To: 1, Term: 4, Index: 0}, 109)
	is(t, "a snapshot is sent", x, api.Effect{Cut: -1, Send: []api.Message{{Kind: api.MsgSnapAsk, From: 1, To: 3, Term: 4, Snap: s, Commit: 3}}, Commit: 3})
	x.Send[0].Snap.Data[0] = 'x'
	l.Snap().Data[0] = 'x'
	if string(l.Snap().Data) != "state" {
		t.Error("shared")
	}
	l.Hear(api.Message{Kind: api.MsgAppendTell, From: 3, To: 1, Term: 4, Index: 4, Ok: true}, 109)
	if l.Compact(api.Snapshot{Index: 4, Term: 4, Set: 15}) != api.OK || l.Set() != 15 {
		t.Error("the set", l.Set())
	}
}

func TestNothingShared(t *testing.T) {
	c := setup(1, 7)
	r := api.Rows{Entries: entries(1)}
	n := fresh(t, c, api.Hard{Term: 1}, r, api.Snapshot{})
	c.Draws[1], r.Entries[0].Data[0] = 99, 99
	n.Tick(elect)
	if x := n.Tick(elect + elect + 30); len(x.Send) != 2 || n.Rows().Entries[0].Data[0] == 99 {
		t.Error("shared", x)
	}
	l := leading(t, 3, 1)
	x := api.Entry{Kind: api.EntryCommand, Data: []byte("data")}
	_, f, _ := l.Propose(x, 5)
	x.Data[0] = 'x'
	f.Add[0].Data[1] = 'x'
	f.Send[0].Entries[1].Data[2] = 'x'
	l.Rows().Entries[2].Data[3] = 'x'
	if string(l.Rows().Entries[2].Data) != "data" || string(f.Send[1].Entries[1].Data) != "data" {
		t.Error("shared")
	}
}
