package shaper_test

import (
	"bytes"
	"math"
	"math/rand"
	"reflect"
	"testing"

	"weir/api"
	"weir/packet"
	"weir/shaper"
)

// pk is the bytes of a packet of so many bytes in all.
func pk(t *testing.T, tenant, class, size int) []byte {
	t.Helper()
	load := make([]byte, size-8)
	for k := range load {
		load[k] = byte(k + class)
	}
	b, e := packet.Build(api.Packet{Tenant: tenant, Class: class, Load: load})
	if e != api.OK {
		t.Fatal(e)
	}
	return b
}

func begin(t *testing.T, flows ...api.Flow) *shaper.Shaper {
	t.Helper()
	s, e := shaper.New(flows)
	if e != api.OK {
		t.Fatal(e)
	}
	return s
}

func in(t *testing.T, s *shaper.Shaper, b []byte, want int) {
	t.Helper()
	if n, e := s.In(b); n != want || e != api.OK {
		t.Fatal(n, e)
	}
}

// out fails unless just these packets go out: their numbers.
func out(t *testing.T, s *shaper.Shaper, budget int, want ...int) []api.Sent {
	t.Helper()
	l, b := s.Pump(budget)
	var got []int
	for k, x := range l {
		got = append(got, x.Packet)
		if len(b) != len(l) || len(b[k]) != x.Size || x.Tick != 0 || x.Shaper != 0 {
			t.Error(x)
		}
	}
	if !reflect.DeepEqual(got, want) {
		t.Errorf("%v; want %v", got, want)
	}
	return l
}

func TestNew(t *testing.T) { // P27.1
	good := api.Flow{Tenant: 1, Weight: 1, Room: 1}
	for n, l := range [][]api.Flow{nil, make([]api.Flow, 9), {{Tenant: 0, Weight: 1, Room: 1}}, {{Tenant: 17, Weight: 1, Room: 1}}, {{Tenant: 1, Weight: 0, Room: 1}}, {{Tenant: 1, Weight: 17, Room: 1}}, {{Tenant: 1, Weight: 1}}, {{Tenant: 1, Weight: 1, Room: 65}}, {good, {}}, {good, good, good, good, good, good, good, good, good}} {
		if s, e := shaper.New(l); s != nil || e != api.ErrArg {
			t.Error(n, e)
		}
	}
	s := begin(t, good, good, good, good, good, good, good, api.Flow{Tenant: 16, Weight: 16, Room: 64})
	if s.Budget() != 0 || s.Tokens(1) != 0 || s.Wants(1) != 0 || s.Waiting(0) != 0 {
		t.Error("fresh")
	}
}

func TestNil(t *testing.T) {
	var s *shaper.Shaper
	_, a := s.In(nil)
	_, b := s.Drop(0)
	l, o := s.Pump(5)
	if a != api.ErrNil || b != api.ErrNil || s.Fill(0, 0) != api.ErrNil || l != nil || o != nil || s.Tokens(1) != 0 || s.Waiting(0) != 0 || s.Wants(1) != 0 || s.Budget() != 0 {
		t.Error("nil")
	}
}

func TestIn(t *testing.T) { // P27.1, P27.4
	s := begin(t, api.Flow{Tenant: 1, Weight: 1, Room: 2}, api.Flow{Tenant: 2, Weight: 1, Room: 1}, api.Flow{Tenant: 1, Weight: 1, Room: 1})
	b := pk(t, 1, 0, 100)
	in(t, s, b, 1)
	in(t, s, pk(t, 1, 1, 50), 2)
	bad := bytes.Clone(b)
	bad[9] ^= 1
	for n, x := range []struct {
		b    []byte
		want api.Errno
	}{{nil, api.ErrHead}, {bad, api.ErrHead}, {pk(t, 3, 0, 8), api.ErrTenant}, {pk(t, 1, 3, 8), api.ErrFull}} {
		if n2, e := s.In(x.b); n2 != 0 || e != x.want {
			t.Error(n, n2, e)
		}
	}
	in(t, s, pk(t, 1, 2, 1500), 3)
	if s.Waiting(0) != 2 || s.Waiting(1) != 0 || s.Waiting(2) != 1 || s.Waiting(3) != 0 || s.Waiting(-1) != 0 || s.Wants(1) != 1650 || s.Wants(2) != 0 || s.Wants(0) != 0 {
		t.Error("waiting", s.Wants(1))
	}
	b[20] ^= 1 // what was handed in is not kept
	s.Fill(1, 1650)
	_, o := s.Pump(2000)
	if len(o) != 3 || !bytes.Equal(o[0], pk(t, 1, 1, 50)) && !bytes.Equal(o[0], pk(t, 1, 0, 100)) {
		t.Error("altered")
	}
}

func TestTokens(t *testing.T) { // P27.2, P27.4
	s := begin(t, api.Flow{Tenant: 1, Weight: 1, Room: 2})
	for n, x := range [][2]int{{0, 1}, {17, 1}, {1, -1}, {1, api.MaxBurst + 1}, {-1, 1}} {
		if s.Fill(x[0], x[1]) != api.ErrArg {
			t.Error(n)
		}
	}
	if s.Fill(16, api.MaxBurst) != api.OK || s.Fill(16, 5) != api.OK || s.Fill(1, 0) != api.OK || s.Tokens(16) != api.MaxBurst+5 || s.Tokens(1) != 0 || s.Tokens(0) != 0 || s.Tokens(17) != 0 {
		t.Error("fill")
	}
	if n, e := s.Drop(16); n != api.MaxBurst+5 || e != api.OK || s.Tokens(16) != 0 {
		t.Error(n, e)
	}
	for _, tenant := range []int{0, 17, math.MinInt} {
		if n, e := s.Drop(tenant); n != 0 || e != api.ErrArg {
			t.Error(n, e)
		}
	}
	for range 1<<40/api.MaxBurst + 2 {
		s.Fill(2, api.MaxBurst)
	}
	if s.Tokens(2) != 1<<40 {
		t.Error(s.Tokens(2))
	}
}

func TestPump(t *testing.T) { // P27.3, P27.5
	s := begin(t, api.Flow{Tenant: 1, Weight: 1, Room: 9}, api.Flow{Tenant: 2, Weight: 1, Room: 9})
	in(t, s, pk(t, 1, 0, 100), 1)
	in(t, s, pk(t, 1, 0, 100), 2)
	out(t, s, 500)
	if s.Budget() != 0 {
		t.Error("a budget above 0 is 0 in the end", s.Budget())
	}
	s.Fill(1, 150)
	l := out(t, s, 500, 1)
	if l[0] != (api.Sent{Tenant: 1, Flow: 0, Size: 100, Packet: 1}) || s.Tokens(1) != 50 || s.Budget() != 0 {
		t.Error(l, s.Tokens(1), s.Budget())
	}
	s.Fill(1, 850)
	in(t, s, pk(t, 2, 7, 40), 3)
	out(t, s, 0)
	out(t, s, -5)
	out(t, s, 1, 2)
	if s.Budget() != -99 || s.Tokens(1) != 800 {
		t.Error(s.Budget(), s.Tokens(1))
	}
	s.Fill(2, 40)
	out(t, s, 99)
	if s.Budget() != 0 {
		t.Error(s.Budget())
	}
	out(t, s, 1, 3)
	if s.Budget() != -39 || s.Tokens(2) != 0 {
		t.Error(s.Budget(), s.Tokens(2))
	}
	in(t, s, pk(t, 2, 7, 1500), 4)
	s.Fill(2, 1499)
	out(t, s, math.MaxInt)
	s.Fill(2, 1)
	out(t, s, math.MaxInt, 4)
	if s.Budget() != 0 {
		t.Error(s.Budget())
	}
	out(t, s, math.MinInt)
}

// TestOut lets random packets out, and holds all stretches against what is promised.
func TestOut(t *testing.T) { // P27.5, P27.6
	r := rand.New(rand.NewSource(1))
	for run := range 60 {
		var flows []api.Flow
		all := 0
		for range 1 + r.Intn(4) {
			flows = append(flows, api.Flow{Tenant: 1 + r.Intn(2), Weight: 1 + r.Intn(9), Room: 4})
			all += flows[len(flows)-1].Weight
		}
		s := begin(t, flows...)
		came := map[int][]byte{}
		greatest := make([]int, len(flows))
		lmax := 0
		last := make([]int, len(flows))
		queued := make([][]int, len(flows)) // sizes
		tokens := map[int]int{}
		type pick struct {
			flow, size int
			ready      []bool
		}
		var picks []pick
		rich := r.Intn(2) == 0
		for range 100 {
			for range r.Intn(8) {
				tenant, class := 1+r.Intn(2), r.Intn(5)
				b := pk(t, tenant, class, 8+r.Intn([]int{3, 300, 1490}[run%3]))
				if n, e := s.In(b); e == api.OK {
					came[n] = b
					k, _ := packet.Flow(flows, api.Packet{Tenant: tenant, Class: class})
					queued[k] = append(queued[k], len(b))
					greatest[k] = max(greatest[k], len(b))
					lmax = max(lmax, len(b))
				}
			}
			for tenant := 1; tenant <= 2; tenant++ {
				n := r.Intn(900)
				if rich {
					n = 100000
				}
				s.Fill(tenant, n)
				tokens[tenant] += n
			}
			l, o := s.Pump(r.Intn(3000))
			for k, x := range l {
				b := came[x.Packet]
				if !bytes.Equal(o[k], b) || x.Size != len(b) || int(b[1]) != x.Tenant || flows[x.Flow].Tenant != x.Tenant || x.Packet <= last[x.Flow] || queued[x.Flow][0] != x.Size {
					t.Fatal("not what came in", x)
				}
				delete(came, x.Packet)
				var ready []bool
				for i, q := range queued {
					ready = append(ready, len(q) > 0 && q[0] <= tokens[flows[i].Tenant])
				}
				picks = append(picks, pick{x.Flow, x.Size, ready})
				last[x.Flow] = x.Packet
				queued[x.Flow] = queued[x.Flow][1:]
				if tokens[x.Tenant] -= x.Size; tokens[x.Tenant] < 0 || !ready[x.Flow] {
					t.Fatal("no tokens")
				}
			}
			for tenant, n := range tokens {
				if s.Tokens(tenant) != n {
					t.Fatal("tokens", s.Tokens(tenant), n)
				}
			}
		}
		for i, f := range flows {
			for from := range picks {
				mine, sum := 0, 0
				for _, p := range picks[from:] {
					if !p.ready[i] {
						break
					}
					sum += p.size
					if p.flow == i {
						mine += p.size
					}
					if mine*all < f.Weight*sum-(2*greatest[i]*all+(lmax-2*greatest[i])*f.Weight) {
						t.Fatal("unfair", run, i, mine, sum)
					}
				}
			}
		}
	}
}
