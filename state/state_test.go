package state_test

import (
	"math"
	"math/rand"
	"reflect"
	"testing"

	"weir/api"
	"weir/ledger"
	"weir/state"
	"weir/wire"
)

// entry is one of a command, of a term and stamp.
func entry(term, stamp int, c api.Command) api.Entry {
	return api.Entry{Term: term, Kind: api.EntryCommand, Stamp: stamp, Data: wire.Command(c)}
}

func put(client, number, tenant, rate, burst int) api.Command {
	return api.Command{Kind: api.CmdPut, Client: client, Number: number, Tenant: tenant, Rate: rate, Burst: burst}
}

func get(client, number, tenant int) api.Command {
	return api.Command{Kind: api.CmdGet, Client: client, Number: number, Tenant: tenant}
}

func del(client, number, tenant int) api.Command {
	return api.Command{Kind: api.CmdDelete, Client: client, Number: number, Tenant: tenant}
}

func grant(shaper, epoch, number, tenant, size int) api.Command {
	return api.Command{Kind: api.CmdGrant, Shaper: shaper, Epoch: epoch, Number: number, Tenant: tenant, Size: size}
}

// run applies entries, and fails unless the last answer is this.
func run(t *testing.T, s api.State, want api.Answer, l ...api.Entry) api.State {
	t.Helper()
	s, a := state.All(s, l)
	if len(a) != len(l) || a[len(a)-1] != want {
		t.Errorf("%v; want %v", a, want)
	}
	if !state.Check(s) {
		t.Error("may not be")
	}
	return s
}

// begun is a state with tenant 1, rate 1000, burst 100, a bucket of 50000, in term 1 at stamp 50.
func begun(t *testing.T) api.State {
	t.Helper()
	return run(t, state.New(), api.Answer{}, entry(1, 0, put(1, 1, 1, 1000, 100)), api.Entry{Term: 1, Stamp: 50})
}

func errs(e api.Errno) api.Answer { return api.Answer{E: e} }

func TestNewCheck(t *testing.T) { // P19.1, P19.2
	if s := state.New(); !state.Check(s) || !state.Same(s, api.State{Next: 1}) {
		t.Error(s)
	}
	for n, change := range []func(*api.State){
		func(s *api.State) { s.Term = -1 }, func(s *api.State) { s.Stamp = -1 }, func(s *api.State) { s.Next = 0 }, func(s *api.State) { s.Sessions[0].Client = 0 },
		func(s *api.State) { s.Desks = []api.Desk{{Shaper: 0, Epoch: 1, Number: 1}} }, func(s *api.State) { s.Desks = []api.Desk{{Shaper: 9, Epoch: 1, Number: 1}} }, func(s *api.State) { s.Desks = []api.Desk{{Shaper: 1, Number: 1}} }, func(s *api.State) { s.Desks = []api.Desk{{Shaper: 1, Epoch: 1}} },
		func(s *api.State) {
			s.Desks = []api.Desk{{Shaper: 2, Epoch: 1, Number: 1}, {Shaper: 2, Epoch: 1, Number: 1}}
		},
	} {
		s := begun(t)
		change(&s)
		got, a := state.Apply(s, entry(1, 60, get(1, 9, 1)))
		if state.Check(s) || a != errs(api.ErrArg) || !state.Same(got, s) {
			t.Error(n, a)
		}
	}
	s := begun(t)
	for n, x := range []api.Entry{{}, {Term: -1}, {Term: 1, Stamp: -1}, {Term: 1, Kind: -1}, {Term: 1, Kind: 3}} {
		if got, a := state.Apply(s, x); a != errs(api.ErrArg) || !state.Same(got, s) {
			t.Error(n, a)
		}
	}
}

func TestSameTokens(t *testing.T) { // P19.1
	full := func() api.State {
		return api.State{Term: 1, Stamp: 2, Next: 3, Tenants: []api.Tenant{{Id: 4}}, Leases: []api.Lease{{Id: 5}}, Sessions: []api.Session{{Client: 6}}, Desks: []api.Desk{{Shaper: 7}}}
	}
	for n, change := range []func(*api.State){
		func(s *api.State) { s.Term++ }, func(s *api.State) { s.Stamp++ }, func(s *api.State) { s.Next++ }, func(s *api.State) { s.Tenants[0].Gone = true }, func(s *api.State) { s.Tenants = nil }, func(s *api.State) { s.Leases[0].Spent++ }, func(s *api.State) { s.Leases = nil },
		func(s *api.State) { s.Sessions[0].Answer.Size++ }, func(s *api.State) { s.Sessions = nil }, func(s *api.State) { s.Desks[0].Number++ }, func(s *api.State) { s.Desks = nil },
	} {
		s := full()
		change(&s)
		if state.Same(s, full()) || state.Same(full(), s) {
			t.Error(n)
		}
	}
	if !state.Same(full(), full()) || !state.Same(api.State{}, api.State{Tenants: []api.Tenant{}, Leases: []api.Lease{}, Sessions: []api.Session{}, Desks: []api.Desk{}}) {
		t.Error("same")
	}
	s := run(t, begun(t), api.Answer{Rate: 1000, Burst: 100, Lease: 1, Size: 40}, entry(1, 50, grant(1, 1, 1, 1, 40)))
	if b, out := state.Tokens(s, 1); b != 10000 || out != 40 {
		t.Error(b, out)
	}
	if b, out := state.Tokens(s, 2); b != 0 || out != 0 {
		t.Error(b, out)
	}
	s.Tenants = append(s.Tenants, api.Tenant{Id: 1, Bucket: 5}) // may not be: the first counts, and nothing is out
	if b, out := state.Tokens(s, 1); b != 10000 || out != 0 {
		t.Error(b, out)
	}
}

func TestCredit(t *testing.T) { // P19.2
	s := begun(t)
	for n, x := range []struct {
		term, stamp, bucket int
	}{{1, 60, 60000}, {1, 50, 50000}, {1, 40, 50000}, {2, 90, 50000}, {1, 99999, 100000}, {1, math.MaxInt, 100000}} {
		for kind := api.EntryNone; kind <= api.EntryCommand; kind++ {
			got, a := state.Apply(s, api.Entry{Term: x.term, Stamp: x.stamp, Kind: kind, Set: 1, Data: []byte("none")})
			want := api.Answer{}
			if kind == api.EntryCommand {
				want.E = api.ErrArg
			}
			if b, _ := state.Tokens(got, 1); b != x.bucket || got.Term != x.term || got.Stamp != x.stamp || a != want {
				t.Error(n, kind, b, got.Term, got.Stamp, a)
			}
		}
	}
}

func TestTable(t *testing.T) { // P19.2
	s := begun(t)
	s = run(t, s, api.Answer{Rate: 1000, Burst: 100}, entry(1, 50, get(1, 2, 1)))
	s = run(t, s, errs(api.ErrTenant), entry(1, 50, get(2, 1, 2)))
	s = run(t, s, errs(api.ErrRate), entry(1, 50, put(2, 2, 1, -1, 5)))
	s = run(t, s, errs(api.ErrTenant), entry(1, 50, put(2, 3, 17, 1, 5)))
	s = run(t, s, errs(api.ErrStale), entry(1, 50, put(1, 1, 1, 5, 5)))
	s = run(t, s, errs(api.ErrArg), entry(1, 50, get(17, 1, 1)))
	s = run(t, s, errs(api.ErrArg), entry(1, 50, get(1, 0, 1)))
	s = run(t, s, api.Answer{}, entry(1, 50, del(1, 3, 1)))
	s = run(t, s, api.Answer{}, entry(1, 50, del(1, 3, 1))) // asked again
	s = run(t, s, errs(api.ErrTenant), entry(1, 50, get(1, 4, 1)))
	s = run(t, s, errs(api.ErrTenant), entry(1, 50, put(2, 3, 1, 1, 5))) // asked again: what was told
	if len(s.Tenants) != 0 || len(s.Sessions) != 2 {
		t.Error(s)
	}
	for _, kind := range []int8{0, -1, 7, 100, 127} {
		run(t, s, errs(api.ErrArg), entry(1, 50, api.Command{Kind: kind, Client: 1, Number: 99}))
	}
	s = run(t, begun(t), api.Answer{Rate: 1000, Burst: 100, Lease: 1, Size: 40}, entry(1, 50, grant(1, 1, 1, 1, 40)))
	s = run(t, s, api.Answer{Rate: 7, Burst: 45}, entry(1, 50, put(1, 2, 1, 7, 45)))
	if b, out := state.Tokens(s, 1); b != 5000 || out != 40 {
		t.Error(b, out)
	}
	s = run(t, s, api.Answer{}, entry(1, 50, del(1, 3, 1)))
	if len(s.Tenants) != 1 || !s.Tenants[0].Gone {
		t.Error(s.Tenants)
	}
	s = run(t, s, api.Answer{}, entry(1, 50, api.Command{Kind: api.CmdExpire, Leases: []int{1, 5}}))
	if len(s.Tenants) != 0 || len(s.Leases) != 0 {
		t.Error(s)
	}
}

func TestDesks(t *testing.T) { // P19.2
	s := begun(t)
	first := api.Answer{Rate: 1000, Burst: 100, Lease: 1, Size: 40}
	s = run(t, s, first, entry(1, 50, grant(2, 3, 4, 1, 40)))
	s = run(t, s, first, entry(1, 50, grant(2, 3, 4, 1, 7)))
	s = run(t, s, errs(api.ErrStale), entry(1, 50, grant(2, 3, 3, 1, 7)))
	s = run(t, s, errs(api.ErrStale), entry(1, 50, grant(2, 2, 9, 1, 7)))
	s = run(t, s, errs(api.ErrPoor), entry(1, 50, grant(2, 3, 5, 1, 11)))
	s = run(t, s, errs(api.ErrPoor), entry(1, 90, grant(2, 3, 5, 1, 11))) // asked again: what was told
	s = run(t, s, errs(api.ErrTenant), entry(1, 90, grant(2, 4, 1, 9, 11)))
	s = run(t, s, errs(api.ErrArg), entry(1, 90, grant(8, 1, 1, 1, 0)))
	s = run(t, s, api.Answer{Rate: 1000, Burst: 100, Lease: 2, Size: 11}, entry(1, 90, grant(1, 1, 1, 1, 11)))
	for _, c := range []api.Command{grant(0, 1, 1, 1, 1), grant(9, 1, 1, 1, 1), grant(1, 0, 1, 1, 1), grant(1, 1, 0, 1, 1), grant(-1, 9, 9, 1, 1)} {
		run(t, s, errs(api.ErrArg), entry(1, 90, c))
	}
	want := []api.Desk{{Shaper: 1, Epoch: 1, Number: 1, Answer: api.Answer{Rate: 1000, Burst: 100, Lease: 2, Size: 11}}, {Shaper: 2, Epoch: 4, Number: 1, Answer: errs(api.ErrTenant)}, {Shaper: 8, Epoch: 1, Number: 1, Answer: errs(api.ErrArg)}}
	if !reflect.DeepEqual(s.Desks, want) {
		t.Error(s.Desks)
	}
	report := func(lease, spent int, closed bool) api.Entry {
		return entry(1, 90, api.Command{Kind: api.CmdReport, Shaper: 2, Epoch: 3, Lease: lease, Spent: spent, Closed: closed})
	}
	s = run(t, s, errs(api.ErrLease), report(2, 5, false))
	s = run(t, s, errs(api.ErrArg), report(1, 41, false))
	s = run(t, s, api.Answer{}, report(1, 10, false))
	if _, out := state.Tokens(s, 1); out != 41 {
		t.Error(out)
	}
	b, _ := state.Tokens(s, 1)
	s = run(t, s, api.Answer{}, report(1, 15, true))
	if c, out := state.Tokens(s, 1); out != 11 || c != b+25000 {
		t.Error(b, c, out)
	}
}

func TestRandom(t *testing.T) { // P19.3 to P19.5
	r := rand.New(rand.NewSource(1))
	for range 30 {
		s := state.New()
		term, stamp, number := 1, 0, [4]int{}
		granted, credited, back := map[int]int{}, map[int]int{}, map[int]int{} // in 1/1000 bytes
		for range 300 {
			switch r.Intn(12) {
			case 0:
				term, stamp = term+1, r.Intn(50)
			default:
				stamp += r.Intn(6)
			}
			was := s
			tenant := 1 + r.Intn(3)
			var c api.Command
			switch r.Intn(7) {
			case 0:
				k := r.Intn(4)
				number[k]++
				c = put(k+1, number[k], tenant, r.Intn(2000), r.Intn(50))
			case 1:
				k := r.Intn(4)
				c = del(k+1, number[k]+r.Intn(2), tenant)
				number[k] = max(number[k], c.Number)
			case 2, 3:
				c = grant(1+r.Intn(2), 1, 1+r.Intn(300), tenant, 1+r.Intn(9))
			case 4:
				c = api.Command{Kind: api.CmdReport, Shaper: 1 + r.Intn(2), Epoch: 1, Spent: r.Intn(9), Closed: r.Intn(2) == 0, Lease: 1 + r.Intn(s.Next)}
			case 5:
				c = api.Command{Kind: api.CmdExpire, Leases: []int{1 + r.Intn(s.Next)}}
			default:
				c = get(1+r.Intn(20), r.Intn(9), tenant)
			}
			x := entry(term, stamp, c)
			var a api.Answer
			s, a = state.Apply(s, x)
			if !state.Check(s) {
				t.Fatal("may not be")
			}
			again, b := state.Apply(s, x)
			if (c.Kind <= api.CmdDelete || c.Kind == api.CmdGrant) && (a != b || !state.Same(s, again)) {
				t.Fatal("twice", c, a, b)
			}
			mid, _ := state.Apply(was, api.Entry{Term: term, Stamp: stamp}) // the credit alone
			for id := 1; id <= 3; id++ {
				b0, out0 := state.Tokens(was, id)
				b1, _ := state.Tokens(mid, id)
				b2, out2 := state.Tokens(s, id)
				credited[id] += b1 - b0
				fresh := s.Next > was.Next && c.Tenant == id
				if out2 > out0 && (!fresh || out2 != out0+a.Size || b2 != b1-1000*a.Size) {
					t.Fatal("what is out rises", id)
				}
				if fresh {
					granted[id] += 1000 * a.Size
				}
				if c.Kind == api.CmdReport && b2 > b1 {
					back[id] += b2 - b1
				}
				if granted[id]-back[id] > credited[id] {
					t.Fatal("more than was credited", id)
				}
				for _, y := range s.Tenants {
					if y.Id == id && b2 != 0 && b2+1000*ledger.Out(s, id) > 1000*y.Burst {
						t.Fatal("cap")
					}
				}
			}
		}
	}
}

func TestNothingShared(t *testing.T) {
	make := func() api.State {
		return run(t, begun(t), api.Answer{Rate: 1000, Burst: 100, Lease: 1, Size: 40}, entry(1, 50, grant(1, 1, 1, 1, 40)))
	}
	s := make()
	a, _ := state.Apply(s, api.Entry{})
	b, _ := state.Apply(s, api.Entry{Term: 1, Stamp: 50})
	c, _ := state.All(s, nil)
	d, _ := state.Apply(s, entry(1, 50, get(1, 1, 1)))
	for _, o := range []api.State{a, b, c, d} {
		o.Tenants[0].Id, o.Leases[0].Id, o.Sessions[0].Client, o.Desks[0].Shaper = 9, 9, 9, 9
	}
	if !state.Same(s, make()) {
		t.Error("shared")
	}
}
