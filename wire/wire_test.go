package wire_test

import (
	"bytes"
	"math/rand"
	"reflect"
	"slices"
	"testing"

	"weir/api"
	"weir/sums"
	"weir/wire"
)

// num is a number's bytes.
func num(l ...int) []byte {
	var b []byte
	for _, n := range l {
		for k := 7; k >= 0; k-- {
			b = append(b, byte(uint64(n)>>(8*k)))
		}
	}
	return b
}

func cat(l ...[]byte) []byte { return slices.Concat(l...) }

func same(t *testing.T, what string, got, want []byte) {
	t.Helper()
	if !bytes.Equal(got, want) {
		t.Errorf("%s: % X; want % X", what, got, want)
	}
}

func TestForms(t *testing.T) { // P5.1
	same(t, "zero answer", wire.Answer(api.Answer{}), make([]byte, 40))
	same(t, "answer", wire.Answer(api.Answer{E: 1, Rate: 2, Burst: 3, Lease: -4, Size: 5}), num(1, 2, 3, -4, 5))
	e := api.Entry{Term: 9, Kind: -1, Stamp: 7, Set: 255, Data: []byte("ab")}
	entry := cat(num(9), []byte{255}, num(7), []byte{255}, num(2), []byte("ab"))
	same(t, "entry", wire.Entry(e), entry)
	m := api.Message{Kind: 3, From: 1, To: 2, Term: 3, Index: 4, Last: 5, Commit: 6, Ok: true, Entries: []api.Entry{e}, Snap: api.Snapshot{Index: 7, Term: 8, Set: 9, Data: []byte{10}}, Data: []byte{11, 12}}
	same(t, "message", wire.Message(m), cat([]byte{3}, num(1, 2, 3, 4, 5, 6), []byte{1}, num(1), entry, num(7, 8), []byte{9}, num(1), []byte{10}, num(2), []byte{11, 12}))
	c := api.Command{Kind: 4, Client: 1, Number: 2, Tenant: 3, Rate: 4, Burst: 5, Shaper: 6, Epoch: 7, Lease: 8, Size: 9, Spent: 10, Closed: true, Leases: []int{11, -12}}
	same(t, "command", wire.Command(c), cat([]byte{4}, num(1, 2, 3, 4, 5, 6, 7, 8, 9, 10), []byte{1}, num(2, 11, -12)))
	s := api.State{Term: 1, Stamp: 2, Next: 3,
		Tenants:  []api.Tenant{{Id: 4, Rate: 5, Burst: 6, Bucket: 7, Gone: true}},
		Leases:   []api.Lease{{Id: 8, Tenant: 9, Shaper: 10, Epoch: 11, Number: 12, Size: 13, Spent: 14}},
		Sessions: []api.Session{{Client: 15, Number: 16, Answer: api.Answer{E: 17, Rate: 18, Burst: 19, Lease: 20, Size: 21}}},
		Desks:    []api.Desk{{Shaper: 22, Epoch: 23, Number: 24, Answer: api.Answer{E: 25, Rate: 26, Burst: 27, Lease: 28, Size: 29}}}}
	same(t, "state", wire.State(s), cat(num(1, 2, 3, 1, 4, 5, 6, 7), []byte{1}, num(1, 8, 9, 10, 11, 12, 13, 14, 1, 15, 16, 17, 18, 19, 20, 21, 1, 22, 23, 24, 25, 26, 27, 28, 29)))
}

// TestLeastEntries: a message may be full of the least entries.
func TestLeastEntries(t *testing.T) { // P5.2
	m := api.Message{Entries: make([]api.Entry, 60)}
	if x, at, e := wire.ReadMessage(wire.Message(m)); len(x.Entries) != 60 || at != 0 || e != api.OK {
		t.Error(at, e)
	}
}

// refused fails unless reading tells this error and place, and nothing else.
func refused[T any](t *testing.T, what string, b []byte, read func([]byte) (T, int, api.Errno), place int, want api.Errno) {
	t.Helper()
	var none T
	x, at, e := read(b)
	if at != place || e != want || !reflect.DeepEqual(x, none) {
		t.Errorf("%s: %v, %d, %v; want %d, %v", what, x, at, e, place, want)
	}
}

func TestRefused(t *testing.T) { // P5.2
	refused(t, "39 bytes", make([]byte, 39), wire.ReadAnswer, 39, api.ErrWire)
	refused(t, "none", nil, wire.ReadAnswer, 0, api.ErrWire)
	refused(t, "a byte behind", make([]byte, 41), wire.ReadAnswer, 40, api.ErrWire)
	refused(t, "2^20 bytes", make([]byte, 1<<20), wire.ReadAnswer, 40, api.ErrWire)
	refused(t, "too long", make([]byte, 1<<20+1), wire.ReadAnswer, 0, api.ErrLong)
	entry := func(count int, rest ...byte) []byte { return cat(make([]byte, 18), num(count), rest) }
	refused(t, "count below 0", entry(-1, 1, 2), wire.ReadEntry, 18, api.ErrWire)
	refused(t, "count too great", entry(3, 1, 2), wire.ReadEntry, 18, api.ErrWire)
	refused(t, "great count", entry(1<<62, 1, 2), wire.ReadEntry, 18, api.ErrWire)
	refused(t, "count too small", entry(1, 1, 2), wire.ReadEntry, 27, api.ErrWire)
	refused(t, "no count", entry(0)[:25], wire.ReadEntry, 25, api.ErrWire)
	c := wire.Command(api.Command{Leases: []int{1, 2}})
	refused(t, "numbers", c[:len(c)-1], wire.ReadCommand, 82, api.ErrWire)
	c[81] = 2
	refused(t, "truth", c, wire.ReadCommand, 81, api.ErrWire)
	m := wire.Message(api.Message{})
	m[57] = 1 // one entry can stand in the 33 bytes behind, and is all nought; then the snapshot has too few
	refused(t, "message", m, wire.ReadMessage, len(m), api.ErrWire)
	m[57] = 2
	refused(t, "entries", m, wire.ReadMessage, 50, api.ErrWire)
	s := wire.State(api.State{Tenants: []api.Tenant{{}}})
	refused(t, "a tenant", s[:24+8+32], wire.ReadState, 24, api.ErrWire)
	for k := range s {
		if x, at, e := wire.ReadState(s[:k]); e != api.ErrWire || at > k || !reflect.DeepEqual(x, api.State{}) {
			t.Error(k, at, e)
		}
	}
	for list, least := range []int{33, 56, 56, 64} {
		b := cat(num(0, 0, 0), num(make([]int, list)...), num(2), make([]byte, 2*least-1))
		refused(t, "list", b, wire.ReadState, 24+8*list, api.ErrWire)
		b = cat(num(0, 0, 0), num(make([]int, list)...), num(40), make([]byte, 40*least), num(make([]int, 3-list)...))
		if x, at, e := wire.ReadState(b); at != 0 || e != api.OK || !bytes.Equal(wire.State(x), b) {
			t.Error(list, at, e)
		}
	}
}

func TestFrame(t *testing.T) { // P5.3
	b, e := wire.Frame(nil)
	if e != api.OK {
		t.Error(e)
	}
	same(t, "none", b, make([]byte, 8))
	b, _ = wire.Frame([]byte("123456789"))
	same(t, "nine", b, append([]byte{0, 0, 0, 9, 0xCB, 0xF4, 0x39, 0x26}, "123456789"...))
	for n := range b {
		if l, u, e := wire.Unframe(b[:n]); e != api.ErrWire || u != 0 || len(l) != 0 {
			t.Error(n, e)
		}
		c := slices.Clone(b)
		c[n] ^= 1
		if l, u, e := wire.Unframe(c); e != api.ErrWire || u != 0 || len(l) != 0 {
			t.Error(n, e)
		}
	}
	most := make([]byte, api.MaxText)
	b, e = wire.Frame(most)
	if l, u, f := wire.Unframe(append(b, 1, 2, 3)); e != api.OK || f != api.OK || u != api.MaxText+8 || !bytes.Equal(l, most) {
		t.Error("most")
	}
	more := make([]byte, api.MaxText+1)
	if b, e := wire.Frame(more); e != api.ErrLong || b != nil {
		t.Error(e)
	}
	sum := sums.Bytes(sums.Sum(more))
	if l, u, e := wire.Unframe(cat([]byte{0, 1, 0, 1}, sum[:], more)); e != api.ErrWire || u != 0 || l != nil {
		t.Error("a frame of too many bytes", e)
	}
	if _, _, e := wire.Unframe([]byte{255, 255, 255, 255, 0, 0, 0, 0}); e != api.ErrWire {
		t.Error(e)
	}
}

func TestNothingShared(t *testing.T) { // P5.2, P5.3
	b := wire.Entry(api.Entry{Data: []byte{1, 2}})
	x, _, _ := wire.ReadEntry(b)
	b[26] = 9
	f, _ := wire.Frame(b)
	l, _, _ := wire.Unframe(f)
	f[8] = 77
	if x.Data[0] != 1 || l[0] != 0 || b[0] != 0 {
		t.Error("shared")
	}
}

// fill makes any value of a random kind's.
func fill(r *rand.Rand, v reflect.Value) {
	switch v.Kind() {
	case reflect.Int:
		v.SetInt(int64(r.Uint64()) >> r.Intn(64))
	case reflect.Int8:
		v.SetInt(int64(int8(r.Intn(256))))
	case reflect.Uint8:
		v.SetUint(uint64(r.Intn(256)))
	case reflect.Bool:
		v.SetBool(r.Intn(2) == 0)
	case reflect.Slice:
		if n := r.Intn(4); n > 0 {
			v.Set(reflect.MakeSlice(v.Type(), n, n))
		}
		for k := range v.Len() {
			fill(r, v.Index(k))
		}
	case reflect.Struct:
		for k := range v.NumField() {
			fill(r, v.Field(k))
		}
	}
}

// round writes and reads random values, whole, shortened, and with one byte changed.
func round[T any](t *testing.T, write func(T) []byte, read func([]byte) (T, int, api.Errno)) {
	t.Helper()
	r := rand.New(rand.NewSource(1))
	for range 200 {
		var x T
		fill(r, reflect.ValueOf(&x).Elem())
		b := write(x)
		y, at, e := read(b)
		if at != 0 || e != api.OK || !reflect.DeepEqual(x, y) {
			t.Fatal(x, y, at, e)
		}
		k := r.Intn(len(b))
		if _, at, e := read(b[:k]); e != api.ErrWire || at > k {
			t.Fatal(k, at, e)
		}
		c := slices.Clone(b)
		c[k] ^= byte(1 + r.Intn(255))
		z, at, e := read(c)
		if e == api.OK && (!bytes.Equal(write(z), c) || reflect.DeepEqual(x, z)) || e != api.OK && (e != api.ErrWire || at > len(c)) {
			t.Fatal(k, at, e)
		}
	}
}

func TestRound(t *testing.T) { // P5.4
	round(t, wire.Entry, wire.ReadEntry)
	round(t, wire.Message, wire.ReadMessage)
	round(t, wire.Command, wire.ReadCommand)
	round(t, wire.Answer, wire.ReadAnswer)
	round(t, wire.State, wire.ReadState)
}
