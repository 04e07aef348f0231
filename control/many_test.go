package control_test

import (
	"bytes"
	"math/rand"
	"reflect"
	"testing"

	"weir/api"
	"weir/clock"
	"weir/control"
	"weir/disk"
	"weir/wire"
)

// world is three controllers on disks that crash, with clocks that drift, clients and shapers, and messages under way.
type world struct {
	t      *testing.T
	r      *rand.Rand
	c      [4]*control.Control
	d      [4]*disk.Disk
	clocks [4]*clock.Clock
	air    []api.Message
	log    map[int]api.Entry     // by index, as it was first taken
	states map[int][]byte        // by what was applied
	told   map[[2]int]api.Answer // of a client and number: what was answered
	number [3]int
}

func (w *world) setup(n int) api.Setup {
	return api.Setup{Self: n, Set: 7, Elect: 40000, Beat: 8000, Draws: []int{w.r.Intn(40000), w.r.Intn(40000)}}
}

// look holds what a controller applied against the others.
func (w *world) look(n int) {
	c := w.c[n]
	first, l := c.Took()
	for k, x := range l {
		if was, is := w.log[first+k]; is && !reflect.DeepEqual(was, x) {
			w.t.Fatal("another entry at", first+k)
		}
		w.log[first+k] = x
	}
	b := wire.State(c.State())
	if was, is := w.states[c.Applied()]; is && !bytes.Equal(was, b) {
		w.t.Fatal("another state at", c.Applied())
	}
	w.states[c.Applied()] = b
}

// out is what a controller sends: answers are held against what was told, and what is in the log.
func (w *world) out(n int, l []api.Message, e api.Errno) {
	w.look(n)
	for _, m := range l {
		if m.To <= 3 {
			w.air = append(w.air, m)
			continue
		}
		x, a, f := control.Answer(m)
		if f != api.OK || m.From != n {
			w.t.Fatal(f)
		}
		if x.Kind != api.CmdPut || a.E != api.OK && a.E != api.ErrRate {
			continue
		}
		key := [2]int{x.Client, x.Number}
		if was, is := w.told[key]; is && was != a {
			w.t.Fatal("another answer", x, was, a)
		}
		w.told[key] = a
		there := false
		for _, y := range w.log {
			there = there || bytes.Equal(y.Data, wire.Command(x))
		}
		if !there {
			w.t.Fatal("answered, and not in the log")
		}
	}
	if e == api.ErrDown {
		w.d[n].Open()
		c, f := control.Open(w.d[n], w.setup(n), rules, w.clocks[n].Now())
		if f != api.OK {
			w.t.Fatal(f)
		}
		w.c[n] = c
	}
}

func (w *world) step() {
	n := 1 + w.r.Intn(3)
	now := w.clocks[n].Now()
	if w.r.Intn(60) == 0 {
		w.d[n].Arm(w.r.Intn(9), []api.Piece{{Name: "log.0", Keep: w.r.Intn(300)}, {Name: "log.1", Keep: w.r.Intn(300)}, {Name: "hard.a", Keep: 40}})
	}
	send := func(m api.Message) {
		l, e := w.c[n].Hear(m, now)
		w.out(n, l, e)
	}
	switch k := w.r.Intn(12); k {
	case 0, 1:
		ticks := w.r.Intn(4)
		for k := 1; k <= 3; k++ {
			w.clocks[k].Step(ticks, ticks*(900+w.r.Intn(200)))
			l, e := w.c[k].Tick(w.clocks[k].Now())
			w.out(k, l, e)
		}
	case 2:
		client := 1 + w.r.Intn(2)
		w.number[client] += w.r.Intn(2)
		x := put(max(1, w.number[client]), 1+w.number[client]%3, 1000+w.number[client], w.number[client]%50-1)
		x.Client = client
		send(call(200+client, x))
	case 3:
		send(lease(101, grant(1, 1+w.r.Intn(200), 1+w.r.Intn(20))))
	case 4:
		send(lease(102, api.Command{Kind: api.CmdReport, Shaper: 1, Epoch: 1, Lease: 1 + w.r.Intn(20), Spent: w.r.Intn(10), Closed: w.r.Intn(3) == 0}))
	default:
		if len(w.air) == 0 {
			return
		}
		at := w.r.Intn(min(len(w.air), 6))
		m := w.air[at]
		if w.r.Intn(9) > 0 {
			w.air = append(w.air[:at], w.air[at+1:]...)
		}
		if w.r.Intn(12) > 0 {
			l, e := w.c[m.To].Hear(m, w.clocks[m.To].Now())
			w.out(m.To, l, e)
		}
	}
}

// TestMany: what is applied is the same everywhere, what is answered is in the log, and is answered so again.
func TestMany(t *testing.T) { // P28.3, P28.4
	applied, told := 0, 0
	for seed := range 12 {
		w := &world{t: t, r: rand.New(rand.NewSource(int64(seed))), log: map[int]api.Entry{}, states: map[int][]byte{}, told: map[[2]int]api.Answer{}}
		for n := 1; n <= 3; n++ {
			w.d[n] = disk.New()
			w.clocks[n], _ = clock.New(100)
			c, e := control.Open(w.d[n], w.setup(n), rules, 0)
			if e != api.OK {
				t.Fatal(e)
			}
			w.c[n] = c
		}
		for range 8000 {
			w.step()
		}
		applied, told = max(applied, len(w.log)), told+len(w.told)
	}
	if applied < 100 || told < 100 {
		t.Error("nothing comes of it", applied, told)
	}
}
