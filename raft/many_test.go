package raft_test

import (
	"math/rand"
	"reflect"
	"testing"

	"weir/api"
	"weir/raft"
	"weir/rows"
)

// world is nodes that keep what they are asked ahead of what they send, and messages under way.
type world struct {
	t         *testing.T
	r         *rand.Rand
	nodes     [8]*raft.Node
	kept      [8]kept
	air       []api.Message
	now       int
	leaders   map[int]int       // of each term
	committed map[int]api.Entry // of each index
	commits   [8]int
	stamp     int
}

type kept struct {
	hard api.Hard
	rows api.Rows
	snap api.Snapshot
}

func (w *world) setup(k int) api.Setup {
	return api.Setup{Self: k, Set: 7, Elect: 50, Beat: 10, Draws: []int{w.r.Intn(50), w.r.Intn(50), w.r.Intn(50)}}
}

// keep does what a step asks for, from the effect alone, and holds it against the node.
func (w *world) keep(k int, x api.Effect) {
	n, d := w.nodes[k], &w.kept[k]
	if x.Hard != (d.hard != n.Hard()) {
		w.t.Fatal("hard")
	}
	d.hard = n.Hard()
	if x.Snap {
		d.snap = n.Snap()
		if term, ok := rows.Term(d.rows, d.snap.Index); ok && term == d.snap.Term {
			d.rows, _ = rows.Cut(d.rows, d.snap.Index)
		} else {
			d.rows = api.Rows{Base: d.snap.Index, Term: d.snap.Term}
		}
		if x.Cut != -1 || len(x.Add) > 0 {
			w.t.Fatal("a snapshot, and rows")
		}
	}
	last, _ := rows.Last(d.rows)
	if (x.Cut == -1) != (len(x.Add) == 0) || x.Cut != -1 && (x.Cut < d.rows.Base || x.Cut > last) {
		w.t.Fatal("cut", x.Cut, len(x.Add))
	}
	if x.Cut >= 0 {
		if x.Cut < last && d.rows.Entries[x.Cut-d.rows.Base].Term == x.Add[0].Term {
			w.t.Fatal("the same goes, and comes again")
		}
		d.rows.Entries = d.rows.Entries[:x.Cut-d.rows.Base]
	}
	d.rows.Entries = append(d.rows.Entries[:len(d.rows.Entries):len(d.rows.Entries)], x.Add...)
	if !rows.Same(d.rows, n.Rows()) || x.Commit != n.Commit() {
		w.t.Fatal("what was asked for is not what stands")
	}
	w.air = append(w.air, x.Send...)
	w.look(k)
}

// look holds a node against all that was seen.
func (w *world) look(k int) {
	n := w.nodes[k]
	if n.Leads() {
		if was, is := w.leaders[n.Hard().Term]; is && was != k {
			w.t.Fatal("two leaders in term", n.Hard().Term)
		}
		w.leaders[n.Hard().Term] = k
	}
	r := n.Rows()
	if n.Commit() < w.commits[k] {
		w.t.Fatal("commit falls")
	}
	w.commits[k] = n.Commit()
	for index := r.Base + 1; index <= n.Commit(); index++ {
		x, ok := rows.Entry(r, index)
		if was, is := w.committed[index]; !ok || is && !reflect.DeepEqual(was, x) {
			w.t.Fatal("committed", index, was, x)
		}
		w.committed[index] = x
	}
	for o := 1; o < 8; o++ {
		if o == k || w.nodes[o] == nil {
			continue
		}
		s := w.nodes[o].Rows()
		i, _ := rows.Last(r)
		j, _ := rows.Last(s)
		same := false
		for index := min(i, j); index > max(r.Base, s.Base); index-- {
			a, _ := rows.Entry(r, index)
			b, _ := rows.Entry(s, index)
			same = same || a.Term == b.Term
			if same && !reflect.DeepEqual(a, b) {
				w.t.Fatal("not the same", index)
			}
		}
	}
}

func (w *world) step() {
	k := 1 + w.r.Intn(4)
	n := w.nodes[k]
	switch w.r.Intn(12) {
	case 0, 1:
		w.now += w.r.Intn(15)
		w.keep(k, n.Tick(w.now))
	case 2:
		w.stamp++
		if _, x, e := n.Propose(api.Entry{Kind: api.EntryCommand, Stamp: w.stamp, Data: []byte{byte(w.stamp)}}, w.now); e == api.OK {
			w.keep(k, x)
		}
	case 3:
		if w.r.Intn(6) == 0 {
			if _, x, e := n.Propose(api.Entry{Kind: api.EntrySet, Set: n.Set() ^ 1<<w.r.Intn(4)}, w.now); e == api.OK {
				w.keep(k, x)
			}
		}
	case 4:
		if w.r.Intn(10) == 0 {
			d := w.kept[k]
			again, e := raft.New(w.setup(k), d.hard, d.rows, d.snap, w.now)
			if e != api.OK {
				w.t.Fatal(e)
			}
			w.nodes[k], w.commits[k] = again, 0
		}
	case 5:
		if r := n.Rows(); n.Commit() > r.Base && w.r.Intn(8) == 0 {
			at := r.Base + 1 + w.r.Intn(n.Commit()-r.Base)
			term, _ := rows.Term(r, at)
			for set := range 16 {
				s := api.Snapshot{Index: at, Term: term, Set: uint8(set), Data: []byte{byte(at)}}
				if n.Compact(s) == api.OK {
					w.kept[k].snap = s
					w.kept[k].rows, _ = rows.Cut(w.kept[k].rows, at)
				}
			}
		}
	default:
		if len(w.air) == 0 {
			return
		}
		at := w.r.Intn(len(w.air))
		m := w.air[at]
		if w.r.Intn(8) > 0 {
			w.air = append(w.air[:at], w.air[at+1:]...)
		}
		if w.r.Intn(10) > 0 {
			w.keep(m.To, w.nodes[m.To].Hear(m, w.now))
		}
	}
}

// TestMany: nodes 1 to 4, three of them servers at first, with messages lost, doubled and late, restarts, changes of the set, snapshots.
func TestMany(t *testing.T) { // P13.5 to P13.7
	most := 0
	for seed := range 40 {
		w := &world{t: t, r: rand.New(rand.NewSource(int64(seed))), leaders: map[int]int{}, committed: map[int]api.Entry{}}
		for k := 1; k <= 4; k++ {
			n, e := raft.New(w.setup(k), api.Hard{}, api.Rows{}, api.Snapshot{}, 0)
			if e != api.OK {
				t.Fatal(e)
			}
			w.nodes[k] = n
		}
		for range 3000 {
			w.step()
		}
		most = max(most, len(w.committed))
	}
	if most < 50 {
		t.Error("nothing comes of it", most)
	}
}
