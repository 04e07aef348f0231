package vote_test

import (
	"math"
	"math/bits"
	"math/rand"
	"reflect"
	"testing"

	"weir/api"
	"weir/rows"
	"weir/vote"
)

// log is rows that end with an index and a term.
func log(index, term int) api.Rows { return api.Rows{Base: index, Term: term} }

func ask(from, term, index, last int) api.Message {
	return api.Message{Kind: api.MsgVoteAsk, From: from, Term: term, Index: index, Last: last}
}

var rotten = api.Rows{Base: -1}

func TestBegin(t *testing.T) { // P10.1
	h, l, e := vote.Begin(api.Hard{Term: 3, Vote: 1, Boot: 7}, log(5, 2), 0b11010110, 3)
	want := []api.Message{}
	for _, to := range []int{2, 5, 7} {
		m := ask(3, 4, 5, 2)
		m.To = to
		want = append(want, m)
	}
	if h != (api.Hard{Term: 4, Vote: 3, Boot: 7}) || !reflect.DeepEqual(l, want) || e != api.OK {
		t.Error(h, l, e)
	}
	if h, l, e := vote.Begin(api.Hard{}, api.Rows{}, 1, 1); h != (api.Hard{Term: 1, Vote: 1}) || len(l) != 0 || e != api.OK {
		t.Error(h, l, e)
	}
	if _, l, _ := vote.Begin(api.Hard{}, api.Rows{}, 127, 4); len(l) != 6 || l[0].To != 1 || l[5].To != 7 {
		t.Error(l)
	}
	for _, x := range []struct {
		r    api.Rows
		set  uint8
		self int
		want api.Errno
	}{{rotten, 7, 9, api.ErrRows}, {log(0, 0), 7, 0, api.ErrArg}, {log(0, 0), 255, 8, api.ErrArg}, {log(0, 0), 255, -1, api.ErrArg}, {log(0, 0), 7, 4, api.ErrArg}, {log(0, 0), 0, 1, api.ErrArg}, {log(0, 0), 255, math.MinInt, api.ErrArg}} {
		if h, l, e := vote.Begin(api.Hard{Term: 1}, x.r, x.set, x.self); e != x.want || h != (api.Hard{}) || l != nil {
			t.Error(x, e)
		}
	}
}

func TestAnswer(t *testing.T) { // P10.2
	for n, x := range []struct {
		h     api.Hard
		m     api.Message
		own   api.Hard
		given bool
	}{
		{api.Hard{Term: 3}, ask(2, 3, 5, 2), api.Hard{Term: 3, Vote: 2}, true},
		{api.Hard{Term: 3}, ask(2, 3, 9, 1), api.Hard{Term: 3}, false},
		{api.Hard{Term: 3}, ask(2, 3, 4, 2), api.Hard{Term: 3}, false},
		{api.Hard{Term: 3}, ask(2, 3, 0, 3), api.Hard{Term: 3, Vote: 2}, true},
		{api.Hard{Term: 3, Vote: 1}, ask(2, 4, 5, 2), api.Hard{Term: 4, Vote: 2}, true},
		{api.Hard{Term: 3, Vote: 1}, ask(2, 4, 4, 2), api.Hard{Term: 4}, false},
		{api.Hard{Term: 3, Vote: 1}, ask(2, 3, 5, 2), api.Hard{Term: 3, Vote: 1}, false},
		{api.Hard{Term: 3, Vote: 2, Boot: 4}, ask(2, 3, 5, 2), api.Hard{Term: 3, Vote: 2, Boot: 4}, true},
		{api.Hard{Term: 3}, ask(2, 2, 5, 2), api.Hard{Term: 3}, false},
		{api.Hard{Term: 3, Vote: 2}, ask(2, 2, 5, 2), api.Hard{Term: 3, Vote: 2}, false},
		{api.Hard{}, ask(7, 1, 5, 2), api.Hard{Term: 1, Vote: 7}, true},
	} {
		own, m, e := vote.Answer(x.h, log(5, 2), 3, x.m)
		if own != x.own || e != api.OK || !reflect.DeepEqual(m, api.Message{Kind: api.MsgVoteTell, From: 3, To: x.m.From, Term: x.own.Term, Ok: x.given}) {
			t.Error(n, own, m, e)
		}
	}
	tell := ask(2, 3, 5, 2)
	tell.Kind = api.MsgVoteTell
	for n, x := range []struct {
		r    api.Rows
		self int
		m    api.Message
		want api.Errno
	}{{rotten, 0, tell, api.ErrRows}, {log(5, 2), 3, tell, api.ErrArg}, {log(5, 2), 0, ask(2, 3, 5, 2), api.ErrArg}, {log(5, 2), 8, ask(2, 3, 5, 2), api.ErrArg}, {log(5, 2), 3, ask(0, 3, 5, 2), api.ErrArg}, {log(5, 2), 3, ask(8, 3, 5, 2), api.ErrArg}, {log(5, 2), 3, ask(3, 3, 5, 2), api.ErrArg}, {log(5, 2), 3, ask(2, 0, 5, 2), api.ErrArg}} {
		if h, m, e := vote.Answer(api.Hard{Term: 1}, x.r, x.self, x.m); e != x.want || h != (api.Hard{}) || !reflect.DeepEqual(m, api.Message{}) {
			t.Error(n, e)
		}
	}
}

func TestRiseCountTimeout(t *testing.T) { // P10.3
	h := api.Hard{Term: 3, Vote: 2, Boot: 9}
	if vote.Rise(h, 3) != h || vote.Rise(h, -1) != h || vote.Rise(h, 4) != (api.Hard{Term: 4, Boot: 9}) {
		t.Error("rise")
	}
	for set := range 256 {
		for yes := range 256 {
			s, y := uint8(set)&127, uint8(yes)
			if vote.Count(uint8(set), y) != (bits.OnesCount8(s&y) > bits.OnesCount8(s)/2 && s > 0) {
				t.Fatal(set, yes)
			}
		}
	}
	for _, x := range []struct{ base, draw, want int }{{100, 0, 100}, {100, 99, 199}, {100, 100, 100}, {100, 250, 150}, {100, -1, 199}, {100, -100, 100}, {0, 5, 1}, {-9, 5, 1}, {1 << 50, 7, 1<<40 + 7}, {1 << 40, math.MaxInt, 1<<41 - 1}, {3, math.MinInt, 4}} {
		if got := vote.Timeout(x.base, x.draw); got != x.want {
			t.Error(x, got)
		}
	}
}

// TestElections lets nodes of a set begin and answer at random, and looks who can have won.
func TestElections(t *testing.T) { // P10.4, P10.5
	r := rand.New(rand.NewSource(1))
	for range 300 {
		set := uint8(1 + r.Intn(127))
		var hard [8]api.Hard
		var logs [8]api.Rows
		for k := range logs {
			if n := r.Intn(4); n > 0 {
				logs[k] = log(n, 1+r.Intn(2))
			}
		}
		given := map[[2]int]int{} // of a term and a node: to whom
		yes := map[[2]int]uint8{} // of a term and a candidate: by whom
		winners := map[int]int{}
		for range 60 {
			self := 1 + r.Intn(7)
			own, asks, e := vote.Begin(hard[self], logs[self], set, self)
			if e != api.OK {
				continue
			}
			hard[self] = own
			got := []api.Message{{Ok: true, From: self, Term: own.Term}}
			for _, m := range asks {
				if r.Intn(3) > 0 {
					h, tell, _ := vote.Answer(hard[m.To], logs[m.To], m.To, m)
					hard[m.To] = h
					got = append(got, tell)
				}
			}
			for _, m := range got {
				if !m.Ok || m.Term != own.Term {
					continue
				}
				if was, is := given[[2]int{m.Term, m.From}]; is && was != self {
					t.Fatal("two votes")
				}
				given[[2]int{m.Term, m.From}] = self
				yes[[2]int{m.Term, self}] |= 1 << (m.From - 1)
			}
			votes := yes[[2]int{own.Term, self}]
			if vote.Count(set, votes) {
				if was, is := winners[own.Term]; is && was != self {
					t.Fatal("two leaders")
				}
				winners[own.Term] = self
				index, term := rows.Last(logs[self])
				for k := 1; k <= 7; k++ {
					if votes>>(k-1)&1 == 1 && !rows.Newer(logs[k], index, term) {
						t.Fatal("older than a voter")
					}
				}
			}
		}
	}
}
