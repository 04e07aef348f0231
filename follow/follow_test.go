package follow_test

import (
	"math"
	"math/bits"
	"math/rand"
	"reflect"
	"slices"
	"testing"

	"weir/api"
	"weir/follow"
	"weir/rows"
)

func log(base, term int, terms ...int) api.Rows {
	r := api.Rows{Base: base, Term: term}
	for _, t := range terms {
		r.Entries = append(r.Entries, api.Entry{Term: t, Kind: api.EntryCommand, Data: []byte{1}})
	}
	return r
}

var rotten = api.Rows{Base: -1}

func TestBegin(t *testing.T) { // P11.1
	got := follow.Begin(log(5, 2, 2, 3), 0b11010110, 3)
	if want := []api.Progress{{Node: 2, Next: 8}, {Node: 5, Next: 8}, {Node: 7, Next: 8}}; !slices.Equal(got, want) {
		t.Error(got)
	}
	if len(follow.Begin(rotten, 7, 1)) != 0 || len(follow.Begin(log(0, 0), 1, 1)) != 0 || len(follow.Begin(log(0, 0), 7, -4)) != 3 {
		t.Error("none")
	}
}

func TestTold(t *testing.T) { // P11.2
	const most = 1 << 40
	for n, x := range []struct {
		match, next int
		ok          bool
		index       int
		m, n        int
	}{
		{0, 5, true, 3, 3, 5}, {0, 5, true, 5, 5, 6}, {4, 5, true, 2, 4, 5}, {4, 9, true, 7, 7, 9}, {0, 1, true, math.MaxInt, most, most + 1}, {-4, -4, true, -4, 0, 1},
		{0, 9, false, 5, 0, 6}, {0, 9, false, 8, 0, 8}, {0, 9, false, 20, 0, 8}, {6, 9, false, 2, 6, 7}, {0, 1, false, 0, 0, 1}, {0, 9, false, -7, 0, 1}, {3, 2, false, 9, 3, 4}, {0, math.MaxInt, true, 0, 0, most + 1}, {0, math.MaxInt, false, math.MaxInt, 0, most}, {0, math.MinInt, true, 0, 0, 1}, {0, most + 1, true, 0, 0, most + 1}, {0, 2, true, 0, 0, 2}, {math.MaxInt, math.MaxInt, false, math.MaxInt, most, most + 1},
	} {
		got := follow.Told(api.Progress{Node: 4, Match: x.match, Next: x.next}, x.ok, x.index)
		if got != (api.Progress{Node: 4, Match: x.m, Next: x.n}) {
			t.Error(n, got)
		}
	}
}

func TestCommit(t *testing.T) { // P11.3
	of := func(l ...int) []api.Progress { // node, match ..
		var out []api.Progress
		for k := 0; k < len(l); k += 2 {
			out = append(out, api.Progress{Node: l[k], Match: l[k+1]})
		}
		return out
	}
	for n, x := range []struct {
		r                  api.Rows
		set                uint8
		self, term, commit int
		l                  []api.Progress
		want               int
		e                  api.Errno
	}{
		{log(0, 0, 1, 2), 7, 1, 2, 0, of(2, 2, 3, 0), 2, 0},
		{log(0, 0, 1, 1), 7, 1, 2, 1, of(2, 2, 3, 2), 1, 0},
		{log(0, 0, 1, 2), 7, 1, 2, 0, of(2, 1, 3, 1), 0, 0},
		{log(0, 0, 1, 2), 7, 1, 2, 0, nil, 0, 0},
		{log(0, 0, 1, 2, 2), 7, 1, 2, 0, of(2, 2, 2, 3), 2, 0},
		{log(0, 0, 1, 2, 2), 6, 1, 2, 0, of(2, 3, 3, 2), 2, 0},
		{log(0, 0, 1, 2, 2), 6, 1, 2, 0, of(1, 3, 2, 3), 0, 0},
		{log(0, 0, 1, 2, 2), 1, 1, 2, 0, of(1, 0), 3, 0},
		{log(0, 0, 1, 2, 2), 15, 1, 2, 0, of(2, 3, 3, 1), 0, 0},
		{log(0, 0, 1, 2, 2), 15, 1, 2, 0, of(2, 3, 3, 2), 2, 0},
		{log(0, 0, 1, 2, 2), 7, 1, 2, 3, of(2, 2), 3, 0},
		{log(0, 0, 1, 2, 2), 7, 1, 2, 0, of(2, math.MaxInt), 3, 0},
		{log(0, 0, 1, 2, 3), 7, 1, 2, 0, of(2, 3), 2, 0},
		{log(5, 2, 2), 7, 1, 2, 5, of(2, 5), 5, 0},
		{log(5, 2), 7, 1, 2, 0, of(2, 5), 0, 0},
		{rotten, 7, 1, 2, -1, nil, 0, api.ErrRows},
		{log(0, 0, 1), 7, 1, 2, -1, nil, 0, api.ErrArg},
		{log(0, 0, 1), 7, 1, 2, 2, nil, 0, api.ErrArg},
		{log(0, 0, 1), 7, 1, 0, 0, nil, 0, api.ErrArg},
		{log(0, 0, 1), 0, 1, 2, 0, nil, 0, api.ErrArg},
		{log(0, 0, 1), 128, 1, 2, 0, nil, 0, api.ErrArg},
	} {
		if got, e := follow.Commit(x.r, x.set, x.self, x.term, x.commit, x.l); got != x.want || e != x.e {
			t.Error(n, got, e)
		}
	}
}

func TestAsk(t *testing.T) { // P11.4
	r := log(5, 2, 2, 3, 3)
	for n, x := range []struct {
		r             api.Rows
		next, most    int
		prev, term, n int
		snap          bool
		e             api.Errno
	}{
		{r, 6, 2, 5, 2, 2, false, 0}, {r, 7, 9, 6, 2, 2, false, 0}, {r, 9, 9, 8, 3, 0, false, 0}, {r, 8, 0, 7, 3, 0, false, 0}, {r, 8, -1, 7, 3, 0, false, 0},
		{r, 5, 9, 0, 0, 0, true, 0}, {r, 1, 9, 0, 0, 0, true, 0}, {r, 0, 9, 0, 0, 0, false, api.ErrArg}, {r, 10, 9, 0, 0, 0, false, api.ErrArg}, {r, math.MinInt, 9, 0, 0, 0, false, api.ErrArg}, {rotten, 0, 9, 0, 0, 0, false, api.ErrRows},
		{log(0, 0, 1), 1, 9, 0, 0, 1, false, 0},
	} {
		prev, term, l, snap, e := follow.Ask(x.r, api.Progress{Next: x.next}, x.most)
		if prev != x.prev || term != x.term || len(l) != x.n || snap != x.snap || e != x.e {
			t.Error(n, prev, term, l, snap, e)
		}
		if len(l) > 0 && !reflect.DeepEqual(l, x.r.Entries[prev-x.r.Base:][:len(l)]) {
			t.Error(n, l)
		}
	}
}

func TestFindAndPut(t *testing.T) { // P11.4
	l := []api.Progress{{Node: 3, Match: 1}, {Node: 2, Match: 2}, {Node: 3, Match: 3}}
	if p, is := follow.Find(l, 3); !is || p.Match != 1 {
		t.Error(p, is)
	}
	if p, is := follow.Find(l, 4); is || p != (api.Progress{}) {
		t.Error(p, is)
	}
	a := follow.Put(l, api.Progress{Node: 3, Match: 9})
	b := follow.Put(l[:2], api.Progress{Node: 5, Match: 9})
	if !slices.Equal(a, []api.Progress{{Node: 3, Match: 9}, {Node: 2, Match: 2}, {Node: 3, Match: 3}}) || !slices.Equal(b, []api.Progress{{Node: 3, Match: 1}, {Node: 2, Match: 2}, {Node: 5, Match: 9}}) {
		t.Error(a, b)
	}
	if l[0].Match != 1 || l[2].Match != 3 || len(follow.Put(nil, api.Progress{})) != 1 {
		t.Error("changed")
	}
}

// TestMajority holds Commit against the words, and Told's bounds.
func TestMajority(t *testing.T) { // P11.5
	r := rand.New(rand.NewSource(1))
	for range 3000 {
		var terms []int
		base, at := r.Intn(3), 1
		for range r.Intn(6) {
			at += r.Intn(2)
			terms = append(terms, at)
		}
		lg := log(base, min(base, 1), terms...)
		last, _ := rows.Last(lg)
		set, self := uint8(1+r.Intn(127)), 1+r.Intn(7)
		commit, term := r.Intn(last+1), 1+r.Intn(4)
		var l []api.Progress
		for k := range 7 {
			if r.Intn(4) > 0 {
				l = append(l, api.Progress{Node: k + 1, Match: r.Intn(last + 2)})
			}
		}
		want := commit
		for index := base + 1; index <= last; index++ {
			n := 0
			for k := 1; k <= 7; k++ {
				p, _ := follow.Find(l, k)
				if set>>(k-1)&1 == 1 && (k == self || p.Match >= index) {
					n++
				}
			}
			if at, _ := rows.Term(lg, index); at == term && 2*n > bits.OnesCount8(set) {
				want = max(want, index)
			}
		}
		got, e := follow.Commit(lg, set, self, term, commit, l)
		if got != want || e != api.OK || got > last {
			t.Fatal(got, want, e)
		}
		p := api.Progress{Node: 1, Match: r.Intn(9) - 2, Next: r.Intn(20) - 2}
		for range 5 {
			if p = follow.Told(p, r.Intn(2) == 0, r.Intn(20)-2); p.Next <= p.Match {
				t.Fatal(p)
			}
		}
		for range p.Next {
			p = follow.Told(p, false, 99)
		}
		if p.Next != p.Match+1 {
			t.Fatal(p)
		}
	}
}
