package keeper_test

import (
	"math/rand"
	"reflect"
	"strconv"
	"testing"

	"weir/api"
	"weir/disk"
	"weir/keeper"
	"weir/rows"
)

// world is keepers on disks that crash, and messages under way.
type world struct {
	t         *testing.T
	r         *rand.Rand
	k         [4]*keeper.Keeper
	d         [4]*disk.Disk
	air       []api.Message
	now       int
	committed map[int]api.Entry
	leaders   map[int]int
	votes     map[[2]int]int // of a term and a node: to whom
	told      [4]int         // the greatest term that a node told
	stamp     int
	crashes   int
}

func (w *world) setup(n int) api.Setup {
	return api.Setup{Self: n, Set: 7, Elect: 50, Beat: 10, Draws: []int{w.r.Intn(50), w.r.Intn(50)}}
}

// plan leaves something of each file.
func (w *world) plan() []api.Piece {
	l := []api.Piece{{Name: "hard.a", Keep: w.r.Intn(50)}, {Name: "hard.b", Keep: w.r.Intn(50)}, {Name: "snap.new", Keep: w.r.Intn(50)}}
	for k := range 30 {
		l = append(l, api.Piece{Name: "log." + strconv.Itoa(k), Keep: w.r.Intn(120)})
	}
	return l
}

// send lets messages out, and looks at what they tell.
func (w *world) send(n int, l []api.Message) {
	for _, m := range l {
		w.told[n] = max(w.told[n], m.Term)
		to := 0
		if m.Kind == api.MsgVoteTell && m.Ok {
			to = m.To
		} else if m.Kind == api.MsgVoteAsk {
			to = n
		}
		if to != 0 {
			if was, is := w.votes[[2]int{m.Term, n}]; is && was != to {
				w.t.Fatal("two votes of", n, "in", m.Term)
			}
			w.votes[[2]int{m.Term, n}] = to
		}
	}
	w.air = append(w.air, l...)
}

// look holds a node's committed entries against all that was seen.
func (w *world) look(n int) {
	x := w.k[n].Node()
	if x.Leads() {
		if was, is := w.leaders[x.Hard().Term]; is && was != n {
			w.t.Fatal("two leaders")
		}
		w.leaders[x.Hard().Term] = n
	}
	r := x.Rows()
	for index := r.Base + 1; index <= x.Commit(); index++ {
		e, ok := rows.Entry(r, index)
		if was, is := w.committed[index]; !ok || is && !reflect.DeepEqual(was, e) {
			w.t.Fatal("committed", index)
		}
		w.committed[index] = e
	}
}

// do makes a step; if the keeper comes down it is opened again, and held against what it was.
func (w *world) do(n int, step func(*keeper.Keeper) ([]api.Message, bool, api.Errno)) {
	k := w.k[n]
	was, commit := k.Node().Rows(), k.Node().Commit()
	l, snap, e := step(k)
	if e == api.OK {
		w.send(n, l)
		w.look(n)
		return
	}
	if e != api.ErrDown {
		return
	}
	if len(l) > 0 || snap {
		w.t.Fatal("something beside ErrDown")
	}
	w.crashes++
	next, took := k.Node().Rows(), k.Node().Snap().Index
	w.d[n].Open()
	again, f := keeper.Open(w.d[n], w.setup(n), w.now)
	if f != api.OK {
		w.t.Fatal(f)
	}
	w.k[n] = again
	is := again.Node().Rows()
	if h := again.Node().Hard(); h.Term < w.told[n] {
		w.t.Fatal("an older term")
	} else if to, is := w.votes[[2]int{h.Term, n}]; is && h.Vote != to {
		w.t.Fatal("a vote is forgotten")
	}
	if took == was.Base && !same(is, was, next) {
		w.t.Fatal("rows", is, was, next)
	}
	last, _ := rows.Last(is)
	for index := is.Base + 1; index <= commit; index++ {
		if x, ok := rows.Entry(is, index); !ok || !reflect.DeepEqual(x, w.committed[index]) {
			w.t.Fatal("what was committed is gone", index, last)
		}
	}
}

func (w *world) step() {
	n := 1 + w.r.Intn(3)
	if w.r.Intn(20) == 0 {
		w.d[n].Arm(w.r.Intn(8), w.plan())
	}
	switch w.r.Intn(12) {
	case 0, 1:
		w.now += w.r.Intn(15)
		w.do(n, func(k *keeper.Keeper) ([]api.Message, bool, api.Errno) {
			l, e := k.Tick(w.now)
			return l, false, e
		})
	case 2, 3:
		w.stamp++
		w.do(n, func(k *keeper.Keeper) ([]api.Message, bool, api.Errno) {
			_, l, e := k.Propose(api.Entry{Kind: api.EntryCommand, Stamp: w.stamp, Data: []byte(strconv.Itoa(w.stamp))}, w.now)
			return l, false, e
		})
	case 4:
		x := w.k[n].Node()
		if r := x.Rows(); x.Commit() > r.Base && w.r.Intn(8) == 0 {
			at := r.Base + 1 + w.r.Intn(x.Commit()-r.Base)
			term, _ := rows.Term(r, at)
			w.do(n, func(k *keeper.Keeper) ([]api.Message, bool, api.Errno) {
				return nil, false, k.Compact(api.Snapshot{Index: at, Term: term, Set: 7, Data: []byte{1}})
			})
		}
	default:
		if len(w.air) == 0 {
			return
		}
		at := w.r.Intn(len(w.air))
		m := w.air[at]
		if w.r.Intn(8) > 0 {
			w.air = append(w.air[:at], w.air[at+1:]...)
		}
		if w.r.Intn(10) > 0 {
			w.do(m.To, func(k *keeper.Keeper) ([]api.Message, bool, api.Errno) { return k.Hear(m, w.now) })
		}
	}
}

// TestRecovery: three keepers whose disks crash wherever it strikes.
func TestRecovery(t *testing.T) { // P14.4
	most, crashes := 0, 0
	for seed := range 30 {
		w := &world{t: t, r: rand.New(rand.NewSource(int64(seed))), committed: map[int]api.Entry{}, leaders: map[int]int{}, votes: map[[2]int]int{}}
		for n := 1; n <= 3; n++ {
			w.d[n] = disk.New()
			k, e := keeper.Open(w.d[n], w.setup(n), 0)
			if e != api.OK {
				t.Fatal(e)
			}
			w.k[n] = k
		}
		for range 2000 {
			w.step()
		}
		most, crashes = max(most, len(w.committed)), crashes+w.crashes
	}
	if most < 30 || crashes < 300 {
		t.Error("nothing comes of it", most, crashes)
	}
}
