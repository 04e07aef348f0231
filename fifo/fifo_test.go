package fifo_test

import (
	"math/rand"
	"slices"
	"testing"

	"weir/api"
	"weir/fifo"
)

func pk(n, load int) api.Packet {
	p := api.Packet{Number: n, Tenant: 2, Class: 3}
	for k := range load {
		p.Load = append(p.Load, byte(n+k))
	}
	return p
}

// holds fails unless a queue has just these.
func holds(t *testing.T, q *fifo.Queue, drops int, want ...api.Packet) {
	t.Helper()
	n := 0
	for _, p := range want {
		n += 8 + len(p.Load)
	}
	if q.Len() != len(want) || q.Bytes() != n || q.Drops() != drops {
		t.Errorf("%d packets, %d bytes, %d dropped; want %d, %d, %d", q.Len(), q.Bytes(), q.Drops(), len(want), n, drops)
	}
	if got := slices.Collect(q.All()); !slices.EqualFunc(got, want, fifo.Same) {
		t.Errorf("%v; want %v", got, want)
	}
	p, is := q.Head()
	if is != (len(want) > 0) || is && !fifo.Same(p, want[0]) || !is && !fifo.Same(p, api.Packet{}) {
		t.Error("head", p, is)
	}
}

func TestQueue(t *testing.T) { // P24.1, P24.2
	for _, room := range []int{0, -1, 65} {
		if q, e := fifo.New(room); q != nil || e != api.ErrArg {
			t.Error(room, e)
		}
	}
	q, _ := fifo.New(2)
	holds(t, q, 0)
	if _, e := q.Pop(); e != api.ErrNone {
		t.Error(e)
	}
	a, b, c := pk(1, 0), pk(2, 3), pk(3, 1492)
	if q.Push(a) != api.OK || q.Push(b) != api.OK || q.Push(c) != api.ErrFull || q.Push(pk(4, 1493)) != api.ErrArg {
		t.Error("push")
	}
	holds(t, q, 1, a, b)
	if p, e := q.Pop(); e != api.OK || !fifo.Same(p, a) {
		t.Error(p, e)
	}
	if q.Push(c) != api.OK {
		t.Error("push")
	}
	holds(t, q, 1, b, c)
	var none *fifo.Queue
	holds(t, none, 0)
	if _, e := none.Pop(); e != api.ErrNil || none.Push(pk(1, 1493)) != api.ErrNil {
		t.Error("nil")
	}
	holds(t, new(fifo.Queue), 0)
	if q, e := fifo.New(64); q == nil || e != api.OK {
		t.Error(e)
	}
}

func TestSame(t *testing.T) { // P24.2
	a := pk(1, 2)
	for n, b := range []api.Packet{{Number: 2, Tenant: 2, Class: 3, Load: a.Load}, {Number: 1, Tenant: 1, Class: 3, Load: a.Load}, {Number: 1, Tenant: 2, Class: 4, Load: a.Load}, pk(1, 1), pk(1, 3), {Number: 1, Tenant: 2, Class: 3, Load: []byte{1, 3}}} {
		if fifo.Same(a, b) {
			t.Error(n)
		}
	}
	if !fifo.Same(a, pk(1, 2)) || !fifo.Same(api.Packet{Load: []byte{}}, api.Packet{}) {
		t.Error("same")
	}
}

func TestNothingShared(t *testing.T) { // P24.2
	q, _ := fifo.New(3)
	p := pk(1, 3)
	q.Push(p)
	q.Push(pk(2, 3))
	p.Load[0] = 99
	h, _ := q.Head()
	h.Load[0] = 99
	all := q.All()
	popped, _ := q.Pop()
	popped.Load[0] = 99
	q.Push(pk(3, 3))
	for range 2 {
		n := 1
		for p := range all {
			if !fifo.Same(p, pk(n, 3)) {
				t.Error(p)
			}
			p.Load[0] = 99
			n++
		}
		if n != 3 {
			t.Error(n)
		}
		for range all {
			break
		}
	}
	holds(t, q, 0, pk(2, 3), pk(3, 3))
}

func TestOrder(t *testing.T) { // P24.3
	r := rand.New(rand.NewSource(1))
	for range 100 {
		room := 1 + r.Intn(8)
		q, _ := fifo.New(room)
		var row []api.Packet
		drops := 0
		for n := range 200 {
			if r.Intn(2) == 0 {
				p := pk(n, r.Intn(5))
				if e := q.Push(p); (e == api.OK) != (len(row) < room) {
					t.Fatal(e)
				} else if e == api.OK {
					row = append(row, p)
				} else {
					drops++
				}
			} else if p, e := q.Pop(); e == api.OK {
				if !fifo.Same(p, row[0]) {
					t.Fatal(p, row[0])
				}
				row = row[1:]
			} else if len(row) > 0 {
				t.Fatal(e)
			}
			holds(t, q, drops, row...)
		}
	}
}
