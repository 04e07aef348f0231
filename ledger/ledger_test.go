package ledger_test

import (
	"math"
	"math/rand"
	"reflect"
	"slices"
	"testing"

	"weir/api"
	"weir/bucket"
	"weir/ledger"
)

func ten(id, rate, burst, b int) api.Tenant {
	return api.Tenant{Id: id, Rate: rate, Burst: burst, Bucket: b}
}

func lease(id, tenant, size, spent int) api.Lease {
	return api.Lease{Id: id, Tenant: tenant, Shaper: 2, Epoch: 3, Number: id + 10, Size: size, Spent: spent}
}

// base is a state with leases: tenant 1 has a bucket of 7000 and 12 out, tenant 3 is gone with 4 out, tenant 5 has nothing out.
func base() api.State {
	return api.State{Term: 4, Stamp: 50, Next: 9,
		Tenants:  []api.Tenant{ten(1, 1000, 100, 7000), {Id: 3, Gone: true}, ten(5, 500, 10, 5000)},
		Leases:   []api.Lease{lease(2, 1, 10, 0), lease(4, 3, 9, 5), lease(8, 1, 5, 3)},
		Sessions: []api.Session{{Client: 1, Number: 2}}, Desks: []api.Desk{{Shaper: 2, Epoch: 3, Number: 18}}}
}

// with is the base, changed.
func with(change func(*api.State)) api.State {
	s := base()
	change(&s)
	return s
}

func same(t *testing.T, what any, got, want api.State) {
	t.Helper()
	if len(got.Leases)+len(want.Leases) == 0 {
		got.Leases, want.Leases = nil, nil
	}
	if len(got.Tenants)+len(want.Tenants) == 0 {
		got.Tenants, want.Tenants = nil, nil
	}
	if !reflect.DeepEqual(got, want) {
		t.Errorf("%v:\n%v; want\n%v", what, got, want)
	}
}

func TestCheck(t *testing.T) { // P18.1
	many := func(n int) func(*api.State) {
		return func(s *api.State) {
			s.Leases, s.Next = nil, 1000
			s.Tenants[0].Bucket, s.Tenants[1] = 0, ten(3, 0, 0, 0)
			for k := range n {
				s.Leases = append(s.Leases, lease(k+1, 1, 1, 0))
			}
		}
	}
	bad := []func(*api.State){
		func(s *api.State) { s.Tenants[0].Id = 0 }, func(s *api.State) { s.Next = 8 }, func(s *api.State) { s.Leases, s.Next = nil, 0 }, func(s *api.State) { s.Next = 1<<40 + 1 }, func(s *api.State) { s.Leases[0].Id = 0 }, func(s *api.State) { s.Leases[0].Id = 4 },
		func(s *api.State) { s.Leases[0].Tenant = 2 }, func(s *api.State) { s.Leases[0].Tenant = 0 }, func(s *api.State) { s.Leases[0].Shaper = 0 }, func(s *api.State) { s.Leases[0].Shaper = 9 }, func(s *api.State) { s.Leases[0].Epoch = 0 }, func(s *api.State) { s.Leases[0].Number = 0 },
		func(s *api.State) { s.Leases[0].Size = 0 }, func(s *api.State) { s.Leases[0].Size = api.MaxBurst + 1 }, func(s *api.State) { s.Leases[0].Spent = -1 }, func(s *api.State) { s.Leases[0].Spent = 10 },
		func(s *api.State) { s.Tenants[0].Bucket = 88001 }, func(s *api.State) { s.Tenants[2].Bucket = 10001 }, many(65),
	}
	for n, change := range bad {
		s := with(change)
		c := with(change)
		a, x := ledger.Grant(s, 0, 0, 0, 0, 0)
		b, e := ledger.Report(s, 9, 9, 9, 9, true)
		if ledger.Check(s) || ledger.Out(s, 1) != 0 || x != (api.Answer{E: api.ErrArg}) || e != api.ErrArg {
			t.Error(n, x, e)
		}
		if l, is := ledger.Find(s, 2); is || l != (api.Lease{}) {
			t.Error(n, l)
		}
		for _, o := range []api.State{a, b, ledger.Credit(s, 5), ledger.Expire(s, []int{2, 4})} {
			same(t, n, o, c)
		}
	}
	for n, change := range []func(*api.State){func(*api.State) {}, func(s *api.State) { s.Tenants[0].Bucket = 88000 }, func(s *api.State) { s.Tenants[0].Bucket, s.Tenants[0].Burst = 0, 3 }, func(s *api.State) { s.Next = 1 << 40 }, many(64), func(s *api.State) { *s = api.State{Next: 1} }} {
		if !ledger.Check(with(change)) {
			t.Error(n)
		}
	}
}

func TestOutFind(t *testing.T) { // P18.1
	s := base()
	for tenant, want := range map[int]int{1: 12, 3: 4, 5: 0, 2: 0, 0: 0, -1: 0} {
		if got := ledger.Out(s, tenant); got != want {
			t.Error(tenant, got)
		}
	}
	for id, want := range map[int]api.Lease{2: s.Leases[0], 4: s.Leases[1], 8: s.Leases[2], 3: {}, 0: {}, math.MaxInt: {}} {
		if got, is := ledger.Find(s, id); got != want || is != (want.Id > 0) {
			t.Error(id, got)
		}
	}
}

func TestCredit(t *testing.T) { // P18.2
	s := base()
	same(t, "credit", ledger.Credit(s, 3), with(func(s *api.State) { s.Tenants[0].Bucket, s.Tenants[2].Bucket = 10000, 6500 }))
	same(t, "much", ledger.Credit(s, math.MaxInt), with(func(s *api.State) { s.Tenants[0].Bucket, s.Tenants[2].Bucket = 88000, 10000 }))
	same(t, "none", ledger.Credit(s, -3), base())
	s.Leases = s.Leases[:1]
	want := ledger.Credit(s, 0)
	if len(want.Tenants) != 2 || want.Tenants[1].Id != 5 {
		t.Error("not swept", want.Tenants)
	}
}

func TestGrant(t *testing.T) { // P18.3
	s := base()
	got, a := ledger.Grant(s, 3, 4, 5, 1, 5)
	if a != (api.Answer{Rate: 1000, Burst: 100, Lease: 9, Size: 5}) {
		t.Error(a)
	}
	same(t, "grant", got, with(func(s *api.State) {
		s.Tenants[0].Bucket, s.Next = 2000, 10
		s.Leases = append(s.Leases, api.Lease{Id: 9, Tenant: 1, Shaper: 3, Epoch: 4, Number: 5, Size: 5})
	}))
	for n, x := range []struct {
		shaper, epoch, number, tenant, size int
		want                                api.Errno
	}{
		{0, 1, 1, 9, 1, api.ErrArg}, {9, 1, 1, 1, 1, api.ErrArg}, {1, 0, 1, 1, 1, api.ErrArg}, {1, 1, 0, 1, 1, api.ErrArg}, {1, 1, 1, 9, 0, api.ErrArg}, {1, 1, 1, 1, api.MaxBurst + 1, api.ErrArg}, {1, 1, 1, 1, -1, api.ErrArg},
		{1, 1, 1, 9, 99, api.ErrTenant}, {1, 1, 1, 3, 1, api.ErrTenant}, {1, 1, 1, 0, 1, api.ErrTenant}, {1, 1, 1, 1, 8, api.ErrPoor},
	} {
		got, a := ledger.Grant(s, x.shaper, x.epoch, x.number, x.tenant, x.size)
		if a != (api.Answer{E: x.want}) {
			t.Error(n, a)
		}
		same(t, n, got, base())
	}
	end := with(func(s *api.State) { s.Next = 1 << 40 })
	if _, a := ledger.Grant(end, 1, 1, 1, 1, 99); a != (api.Answer{E: api.ErrFull}) {
		t.Error(a)
	}
	full := with(func(s *api.State) {
		s.Next = 200
		for k := len(s.Leases); k < 64; k++ {
			s.Leases = append(s.Leases, lease(k+20, 1, 1, 0))
		}
		s.Tenants[0].Burst = 1000
	})
	if _, a := ledger.Grant(full, 1, 1, 1, 9, 99); a != (api.Answer{E: api.ErrTenant}) {
		t.Error(a)
	}
	if got, a := ledger.Grant(full, 1, 1, 1, 1, 99); a != (api.Answer{E: api.ErrFull}) || len(got.Leases) != 64 {
		t.Error(a)
	}
	s.Leases = s.Leases[:1]
	if got, _ := ledger.Grant(s, 0, 1, 1, 1, 1); len(got.Tenants) != 2 {
		t.Error("not swept where it is refused")
	}
}

func TestReport(t *testing.T) { // P18.4
	for n, x := range []struct {
		shaper, epoch, lease, spent int
		closed                      bool
		want                        func(*api.State)
		e                           api.Errno
	}{
		{2, 3, 2, 2, false, func(s *api.State) { s.Leases[0].Spent = 2 }, 0},
		{2, 3, 8, 3, false, func(*api.State) {}, 0},
		{2, 3, 2, 10, false, func(s *api.State) { s.Leases = s.Leases[1:] }, 0},
		{2, 3, 2, 10, true, func(s *api.State) { s.Leases = s.Leases[1:] }, 0},
		{2, 3, 2, 3, true, func(s *api.State) { s.Leases, s.Tenants[0].Bucket = s.Leases[1:], 14000 }, 0},
		{2, 3, 4, 6, true, func(s *api.State) {
			s.Leases = slices.Delete(s.Leases, 1, 2)
			s.Tenants = slices.Delete(s.Tenants, 1, 2)
		}, 0},
		{2, 3, 4, 9, false, func(s *api.State) {
			s.Leases = slices.Delete(s.Leases, 1, 2)
			s.Tenants = slices.Delete(s.Tenants, 1, 2)
		}, 0},
		{2, 3, 7, 1, false, nil, api.ErrLease}, {1, 3, 2, 1, false, nil, api.ErrLease}, {2, 4, 2, 99, false, nil, api.ErrLease}, {2, 3, 8, 2, false, nil, api.ErrArg}, {2, 3, 2, 11, true, nil, api.ErrArg}, {2, 3, 2, -1, false, nil, api.ErrArg},
	} {
		got, e := ledger.Report(base(), x.shaper, x.epoch, x.lease, x.spent, x.closed)
		if e != x.e {
			t.Error(n, e)
		}
		want := base()
		if x.want != nil {
			x.want(&want)
		}
		same(t, n, got, want)
	}
	poor := with(func(s *api.State) { s.Tenants[0].Burst, s.Tenants[0].Bucket = 5, 0 })
	if got, e := ledger.Report(poor, 2, 3, 2, 1, true); e != api.OK || got.Tenants[0].Bucket != 3000 {
		t.Error("no more goes back than there is room", got, e)
	}
}

func TestExpire(t *testing.T) { // P18.5
	same(t, "expire", ledger.Expire(base(), []int{8, 77, 4, 4, -1}), with(func(s *api.State) {
		s.Leases = s.Leases[:1]
		s.Tenants = slices.Delete(s.Tenants, 1, 2)
	}))
	same(t, "nothing", ledger.Expire(base(), nil), base())
}

// total is bucket + 1000 * out of a tenant.
func total(s api.State, tenant int) int {
	for _, x := range s.Tenants {
		if x.Id == tenant {
			return x.Bucket + 1000*ledger.Out(s, tenant)
		}
	}
	return 0
}

func TestRandom(t *testing.T) { // P18.6
	r := rand.New(rand.NewSource(1))
	for range 60 {
		s := api.State{Next: 1, Tenants: []api.Tenant{ten(1, 1000, 30, 0), ten(2, 500, 20, 0), ten(7, 0, 5, 0)}}
		for range 300 {
			was := s
			tenant := []int{1, 2, 7}[r.Intn(3)]
			id := 0
			if len(s.Leases) > 0 {
				id = s.Leases[r.Intn(len(s.Leases))].Id
			}
			ticks := 0
			switch r.Intn(5) {
			case 0:
				ticks = r.Intn(9)
				s = ledger.Credit(s, ticks)
			case 1:
				var a api.Answer
				size := 1 + r.Intn(8)
				if s, a = ledger.Grant(s, 1, 1, 1, tenant, size); a.E == api.OK {
					if total(s, tenant) != total(was, tenant) || ledger.Out(s, tenant) != ledger.Out(was, tenant)+size {
						t.Fatal("grant")
					}
				}
			case 2:
				s, _ = ledger.Report(s, 1, 1, id, r.Intn(9), r.Intn(3) == 0)
			case 3:
				if r.Intn(5) == 0 {
					s = ledger.Expire(s, []int{id})
				}
			default:
				if r.Intn(9) == 0 {
					for k := range s.Tenants {
						if s.Tenants[k].Id == tenant {
							s.Tenants = slices.Clone(s.Tenants)
							s.Tenants[k].Burst = r.Intn(40)
							s.Tenants[k].Bucket = bucket.Cut(s.Tenants[k].Bucket, s.Tenants[k].Burst, ledger.Out(was, tenant))
						}
					}
					was = s
				}
			}
			if !ledger.Check(s) {
				t.Fatal("may not be", s)
			}
			for _, x := range s.Tenants {
				if after, before := total(s, x.Id), total(was, x.Id); after > before+ticks*x.Rate {
					t.Fatal("rises", x)
				}
			}
		}
	}
}

func TestReportsInAnyOrder(t *testing.T) { // P18.7
	r := rand.New(rand.NewSource(1))
	for range 200 {
		s := base()
		greatest := 0
		for range 6 {
			spent := r.Intn(10)
			greatest = max(greatest, spent)
			s, _ = ledger.Report(s, 2, 3, 2, spent, false)
		}
		same(t, "reports", s, with(func(s *api.State) { s.Leases[0].Spent = greatest }))
	}
}

// TestEnds: the last tenant, the last shaper and the greatest lease are like all others.
func TestEnds(t *testing.T) { // P18.1, P18.2
	s := api.State{Next: 5, Tenants: []api.Tenant{{Id: 16, Gone: true}}, Leases: []api.Lease{{Id: 4, Tenant: 16, Shaper: 8, Epoch: 1, Number: 1, Size: api.MaxBurst, Spent: api.MaxBurst - 1}}}
	if !ledger.Check(s) || ledger.Out(s, 16) != 1 {
		t.Error("may be")
	}
	same(t, "kept", ledger.Credit(s, 5), s)
	if got := ledger.Expire(s, []int{4}); len(got.Tenants) != 0 {
		t.Error(got)
	}
}

func TestNothingShared(t *testing.T) {
	s := base()
	a, _ := ledger.Grant(s, 3, 4, 5, 1, 5)
	b, _ := ledger.Report(s, 2, 3, 2, 2, false)
	c, _ := ledger.Report(s, 0, 3, 2, 2, false)
	for _, o := range []api.State{a, b, c, ledger.Credit(s, 2), ledger.Expire(s, []int{8}), ledger.Expire(s, nil)} {
		for k := range o.Tenants {
			o.Tenants[k].Id = 99
		}
		for k := range o.Leases {
			o.Leases[k].Id = 99
		}
		o.Sessions[0].Client, o.Desks[0].Shaper = 99, 99
	}
	same(t, "handed in", s, base())
}
