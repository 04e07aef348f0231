package air_test

import (
	"math/rand"
	"reflect"
	"testing"

	"weir/air"
	"weir/api"
)

// msg is a message with lists in all its parts, told by its number.
func msg(from, to, n int) api.Message {
	return api.Message{
		Kind: api.MsgAppendAsk, From: from, To: to, Term: n, Index: n + 1, Last: 3, Commit: 4, Ok: true,
		Entries: []api.Entry{{Term: n, Kind: api.EntryCommand, Data: []byte{byte(n), 1}}, {Term: n}},
		Snap:    api.Snapshot{Index: n, Term: 2, Set: 3, Data: []byte{byte(n), 2}},
		Data:    []byte{byte(n), 3},
	}
}

// spoil changes all bytes that a message points to.
func spoil(m api.Message) {
	for _, b := range [][]byte{m.Data, m.Snap.Data, m.Entries[0].Data} {
		for k := range b {
			b[k] ^= 255
		}
	}
	for k := range m.Entries {
		m.Entries[k].Term = -1
	}
}

// look fails unless the air holds just these, seen by Len, Look and All.
func look(t *testing.T, a *air.Air, want ...api.Message) {
	t.Helper()
	if a.Len() != len(want) {
		t.Fatalf("%d messages; want %d", a.Len(), len(want))
	}
	for k, m := range want {
		if got, e := a.Look(k); e != api.OK || !reflect.DeepEqual(got, m) {
			t.Errorf("message %d: %v %v; want %v", k, got, e, m)
		}
	}
	n := 0
	for k, m := range a.All() {
		if k != n || !reflect.DeepEqual(m, want[n]) {
			t.Errorf("place %d: %v; want %v", k, m, want[n])
		}
		n++
	}
	if n != len(want) {
		t.Errorf("%d gone over; want %d", n, len(want))
	}
	for _, k := range []int{-1, len(want)} {
		if m, e := a.Look(k); e != api.ErrNone || !reflect.DeepEqual(m, api.Message{}) {
			t.Errorf("message %d: %v %v", k, m, e)
		}
	}
}

func TestSend(t *testing.T) { // P2.1
	a := air.New()
	look(t, a)
	for _, x := range []struct {
		from, to int
		want     api.Errno
	}{{1, 2, api.OK}, {255, 1, api.OK}, {3, 3, api.OK}, {0, 1, api.ErrArg}, {1, 0, api.ErrArg}, {256, 1, api.ErrArg}, {1, 256, api.ErrArg}, {-1, 1, api.ErrArg}} {
		if e := a.Send(msg(x.from, x.to, 7)); e != x.want {
			t.Errorf("%v: %v", x, e)
		}
	}
	look(t, a, msg(1, 2, 7), msg(255, 1, 7), msg(3, 3, 7))
}

func TestRoom(t *testing.T) { // P2.1, P2.2
	a := air.New()
	for n := range 1024 {
		if e := a.Send(msg(1, 2, n)); e != api.OK {
			t.Fatal(n, e)
		}
	}
	if a.Send(msg(1, 2, 0)) != api.ErrFull || a.Send(msg(0, 2, 0)) != api.ErrArg || a.Double(0) != api.ErrFull || a.Double(1024) != api.ErrNone || a.Len() != 1024 {
		t.Error("full")
	}
	if a.Lose(5) != api.OK || a.Double(0) != api.OK || a.Len() != 1024 {
		t.Error("room again")
	}
	if m, _ := a.Look(1023); m.Term != 0 {
		t.Error("the last one is", m.Term)
	}
}

func TestDeliver(t *testing.T) { // P2.2
	a := air.New()
	a.Send(msg(1, 2, 1))
	a.Send(msg(2, 1, 2))
	a.Double(0)
	m, through, e := a.Deliver(0)
	if e != api.OK || !through || !reflect.DeepEqual(m, msg(1, 2, 1)) {
		t.Error(m, through, e)
	}
	look(t, a, msg(2, 1, 2), msg(1, 2, 1))
	for _, k := range []int{-1, 2} {
		m, through, e := a.Deliver(k)
		if e != api.ErrNone || through || !reflect.DeepEqual(m, api.Message{}) || a.Lose(k) != api.ErrNone || a.Double(k) != api.ErrNone {
			t.Error(k, m, through, e)
		}
	}
	if a.Lose(1) != api.OK {
		t.Error("lose")
	}
	look(t, a, msg(2, 1, 2))
}

func TestCut(t *testing.T) { // P2.3
	a := air.New()
	through := func(from, to int) bool {
		a.Send(msg(from, to, 1))
		m, ok, e := a.Deliver(a.Len() - 1)
		if e != api.OK || m.From != from {
			t.Error(m, e)
		}
		return ok
	}
	if a.Cut(1, 2) != api.OK || a.Cut(1, 2) != api.OK || through(1, 2) || !through(2, 1) || !through(1, 3) {
		t.Error("cut")
	}
	if a.Mend(2, 1) != api.OK || through(1, 2) || a.Mend(1, 2) != api.OK || !through(1, 2) {
		t.Error("mend")
	}
	if a.Cut(3, 3) != api.OK || through(3, 3) || a.Cut(255, 1) != api.OK || through(255, 1) {
		t.Error("edges")
	}
	for _, w := range [][2]int{{0, 1}, {1, 0}, {256, 1}, {1, 256}, {-1, -1}} {
		if a.Cut(w[0], w[1]) != api.ErrArg || a.Mend(w[0], w[1]) != api.ErrArg {
			t.Error(w)
		}
	}
	var zero air.Air
	if zero.Mend(1, 2) != api.OK || zero.Cut(1, 2) != api.OK || zero.Send(msg(1, 2, 1)) != api.OK {
		t.Error("an air that New did not make")
	}
}

func TestClear(t *testing.T) { // P2.3
	a := air.New()
	for n, to := range []int{2, 3, 2, 4, 2} {
		a.Send(msg(1, to, n))
	}
	if a.Clear(9) != 0 || a.Clear(0) != 0 || a.Clear(1) != 0 || a.Clear(2) != 3 || a.Clear(2) != 0 {
		t.Error("clear")
	}
	look(t, a, msg(1, 3, 1), msg(1, 4, 3))
}

func TestNoAir(t *testing.T) { // P2.1 to P2.3
	var a *air.Air
	_, look := a.Look(0)
	_, through, deliver := a.Deliver(0)
	for n, e := range []api.Errno{a.Send(msg(0, 0, 1)), look, deliver, a.Lose(-1), a.Double(0), a.Cut(0, 1), a.Mend(0, 1)} {
		if e != api.ErrNil {
			t.Error(n, e)
		}
	}
	if a.Len() != 0 || a.Clear(1) != 0 || through {
		t.Error("zero")
	}
	for range a.All() {
		t.Error("something")
	}
}

func TestNothingShared(t *testing.T) { // P2.1, P2.4
	a := air.New()
	in := msg(1, 2, 5)
	a.Send(in)
	spoil(in)
	out, _ := a.Look(0)
	spoil(out)
	for _, m := range a.All() {
		spoil(m)
	}
	look(t, a, msg(1, 2, 5))
	a.Double(0)
	m, _, _ := a.Deliver(0)
	spoil(m)
	look(t, a, msg(1, 2, 5))
}

func TestAllIsOfThen(t *testing.T) { // P2.1
	a := air.New()
	a.Send(msg(1, 2, 1))
	a.Send(msg(1, 2, 2))
	all := a.All()
	a.Lose(0)
	a.Send(msg(1, 2, 3))
	for range 2 {
		n := 0
		for k, m := range all {
			if m.Term != k+1 {
				t.Error(k, m.Term)
			}
			spoil(m)
			n++
		}
		if n != 2 {
			t.Error(n)
		}
		for range all {
			break
		}
	}
}

// TestModel holds random calls against a plain row of numbers.
func TestModel(t *testing.T) { // P2.4
	r := rand.New(rand.NewSource(1))
	a := air.New()
	type one struct{ from, to, n int }
	var row []one
	cuts := map[[2]int]bool{}
	for n := range 5000 {
		k, from, to := r.Intn(len(row)+1), 1+r.Intn(3), 1+r.Intn(3)
		switch r.Intn(9) {
		case 0, 1, 2:
			a.Send(msg(from, to, n))
			row = append(row, one{from, to, n})
		case 3, 4:
			m, through, e := a.Deliver(k)
			if k == len(row) {
				if e != api.ErrNone {
					t.Fatal(e)
				}
				break
			}
			if x := row[k]; e != api.OK || m.Term != x.n || through == cuts[[2]int{x.from, x.to}] {
				t.Fatal(n, m, through, e)
			}
			row = append(row[:k:k], row[k+1:]...)
		case 5:
			if e := a.Lose(k); (e == api.OK) != (k < len(row)) {
				t.Fatal(e)
			} else if e == api.OK {
				row = append(row[:k:k], row[k+1:]...)
			}
		case 6:
			if e := a.Double(k); (e == api.OK) != (k < len(row)) {
				t.Fatal(e)
			} else if e == api.OK {
				row = append(row, row[k])
			}
		case 7:
			cut := r.Intn(2) == 0
			cuts[[2]int{from, to}] = cut
			if cut {
				a.Cut(from, to)
			} else {
				a.Mend(from, to)
			}
		default:
			if r.Intn(10) > 0 {
				break
			}
			var left []one
			for _, x := range row {
				if x.to != to {
					left = append(left, x)
				}
			}
			if got := a.Clear(to); got != len(row)-len(left) {
				t.Fatal(got)
			}
			row = left
		}
		if a.Len() != len(row) {
			t.Fatal(n, a.Len(), len(row))
		}
		for k, m := range a.All() {
			if row[k] != (one{m.From, m.To, m.Term}) {
				t.Fatal(n, k, m)
			}
		}
	}
}
