package policy_test

import (
	"math"
	"math/rand"
	"reflect"
	"testing"

	"weir/api"
	"weir/policy"
)

func ten(id, rate, burst, bucket int) api.Tenant {
	return api.Tenant{Id: id, Rate: rate, Burst: burst, Bucket: bucket}
}

func gone(id int) api.Tenant { return api.Tenant{Id: id, Gone: true} }

// three are tenants in a row with room behind.
func three() []api.Tenant {
	l := make([]api.Tenant, 3, 8)
	copy(l, []api.Tenant{ten(2, 1000, 500, 400000), gone(5), ten(9, 0, 0, 0)})
	return l
}

func same(t *testing.T, what string, got, want []api.Tenant) {
	t.Helper()
	if len(got)+len(want) > 0 && !reflect.DeepEqual(got, want) {
		t.Errorf("%s: %v; want %v", what, got, want)
	}
	for k := range got {
		got[k].Id = 99
	}
}

func TestCheck(t *testing.T) { // P17.1 to P17.3
	bad := [][]api.Tenant{
		{ten(0, 1, 1, 0)}, {ten(17, 1, 1, 0)}, {ten(-1, 1, 1, 0)}, {ten(2, 1, 1, 0), ten(2, 1, 1, 0)}, {ten(2, 1, 1, 0), ten(1, 1, 1, 0)}, {ten(1, -1, 1, 0)}, {ten(1, api.MaxRate+1, 1, 0)}, {ten(1, 1, -1, 0)}, {ten(1, 1, api.MaxBurst+1, 0)},
		{ten(1, 1, 1, -1)}, {ten(1, 1, 1, 1000*api.MaxBurst+1)}, {{Id: 1, Rate: 1, Gone: true}}, {{Id: 1, Burst: 1, Gone: true}}, {{Id: 1, Bucket: 1, Gone: true}}, {ten(2, 1, 1, 0), gone(5), ten(5, 1, 1, 0)},
	}
	for n, l := range bad {
		if policy.Check(l) {
			t.Error(n)
		}
		want := api.Answer{E: api.ErrArg}
		a, x := policy.Put(l, 99, -1, 2, 0)
		b, y := policy.Delete(l, 99, 0)
		c, e := policy.Set(l, ten(1, 1, 1, 1))
		f, is := policy.Find(l, 1)
		if x != want || y != want || e != api.ErrArg || policy.Get(l, 1) != want || f != (api.Tenant{}) || is {
			t.Error(n, x, y, e)
		}
		for _, k := range [][]api.Tenant{a, b, c, policy.Sweep(l, nil)} {
			same(t, "as they are", k, l)
		}
	}
	if !policy.Check(nil) || !policy.Check(three()) || !policy.Check([]api.Tenant{ten(1, 0, 0, 1000*api.MaxBurst), ten(16, api.MaxRate, api.MaxBurst, 0)}) {
		t.Error("may be")
	}
}

func TestPut(t *testing.T) { // P17.1
	room := three()
	for n, x := range []struct {
		id, rate, burst, out int
		want                 []api.Tenant
		e                    api.Errno
	}{
		{3, 1000, 500, 0, []api.Tenant{ten(2, 1000, 500, 400000), ten(3, 1000, 500, 0), gone(5), ten(9, 0, 0, 0)}, 0},
		{2, 7, 10, 4, []api.Tenant{ten(2, 7, 10, 6000), gone(5), ten(9, 0, 0, 0)}, 0},
		{2, 7, 10, 40, []api.Tenant{ten(2, 7, 10, 0), gone(5), ten(9, 0, 0, 0)}, 0},
		{2, 7, 600, -40, []api.Tenant{ten(2, 7, 600, 400000), gone(5), ten(9, 0, 0, 0)}, 0},
		{5, 7, 10, 4, []api.Tenant{ten(2, 1000, 500, 400000), ten(5, 7, 10, 0), ten(9, 0, 0, 0)}, 0},
		{16, api.MaxRate, api.MaxBurst, 0, append(three(), ten(16, api.MaxRate, api.MaxBurst, 0)), 0},
		{1, 0, 0, 0, append([]api.Tenant{ten(1, 0, 0, 0)}, three()...), 0},
		{0, -1, 5, 0, three(), api.ErrTenant}, {17, 5, 5, 0, three(), api.ErrTenant}, {3, -1, 5, 0, three(), api.ErrRate}, {3, 5, api.MaxBurst + 1, 0, three(), api.ErrRate}, {3, math.MaxInt, 1, 0, three(), api.ErrRate},
	} {
		got, a := policy.Put(room, x.id, x.rate, x.burst, x.out)
		want := api.Answer{E: x.e}
		if x.e == api.OK {
			want = api.Answer{Rate: x.rate, Burst: x.burst}
			if policy.Get(got, x.id) != want {
				t.Error(n, "get")
			}
		}
		if a != want {
			t.Error(n, a)
		}
		same(t, "put", got, x.want)
	}
	same(t, "what was handed in", room[:3:3], three())
	if room[:4][3] != (api.Tenant{}) {
		t.Error("room behind")
	}
}

func TestGetDelete(t *testing.T) { // P17.2
	l := three()
	none := api.Answer{E: api.ErrTenant}
	for id, want := range map[int]api.Answer{2: {Rate: 1000, Burst: 500}, 5: none, 9: {}, 3: none, 0: none, -5: none, 17: none} {
		if got := policy.Get(l, id); got != want {
			t.Error(id, got)
		}
	}
	for n, x := range []struct {
		id, out int
		want    []api.Tenant
		a       api.Answer
	}{
		{2, 0, []api.Tenant{gone(5), ten(9, 0, 0, 0)}, api.Answer{}}, {2, -1, []api.Tenant{gone(5), ten(9, 0, 0, 0)}, api.Answer{}}, {2, 4, []api.Tenant{gone(2), gone(5), ten(9, 0, 0, 0)}, api.Answer{}}, {9, 1, []api.Tenant{ten(2, 1000, 500, 400000), gone(5), gone(9)}, api.Answer{}},
		{5, 0, three(), none}, {3, 0, three(), none}, {0, 0, three(), none},
	} {
		got, a := policy.Delete(l, x.id, x.out)
		if a != x.a {
			t.Error(n, a)
		}
		same(t, "delete", got, x.want)
	}
	same(t, "what was handed in", l[:3:3], three())
}

func TestFindSetSweep(t *testing.T) { // P17.3
	l := three()
	for id, want := range map[int]api.Tenant{2: l[0], 5: l[1], 9: l[2]} {
		if x, is := policy.Find(l, id); x != want || !is {
			t.Error(id, x)
		}
	}
	for _, id := range []int{0, 1, 3, 17, math.MinInt} {
		if x, is := policy.Find(l, id); x != (api.Tenant{}) || is {
			t.Error(id, x)
		}
	}
	for n, x := range []struct {
		x    api.Tenant
		want []api.Tenant
		e    api.Errno
	}{
		{ten(2, 1, 1, 5), []api.Tenant{ten(2, 1, 1, 5), gone(5), ten(9, 0, 0, 0)}, 0}, {ten(4, 1, 1, 5), []api.Tenant{l[0], ten(4, 1, 1, 5), gone(5), l[2]}, 0}, {gone(9), []api.Tenant{l[0], gone(5), gone(9)}, 0},
		{ten(0, 1, 1, 5), three(), api.ErrArg}, {ten(17, 1, 1, 5), three(), api.ErrArg}, {ten(2, -1, 1, 5), three(), api.ErrArg}, {ten(2, 1, 1, -5), three(), api.ErrArg}, {api.Tenant{Id: 2, Gone: true, Bucket: 1}, three(), api.ErrArg},
	} {
		got, e := policy.Set(l, x.x)
		if e != x.e {
			t.Error(n, e)
		}
		same(t, "set", got, x.want)
	}
	all := []api.Tenant{gone(1), ten(2, 1, 1, 1), gone(3), gone(4)}
	same(t, "sweep", policy.Sweep(all, nil), all[1:2:2])
	same(t, "sweep", policy.Sweep(all, []int{1, 0, 0, -1, 4}), []api.Tenant{gone(1), ten(2, 1, 1, 1)})
	same(t, "sweep", policy.Sweep(all, []int{0, 0, 5, 2}), []api.Tenant{ten(2, 1, 1, 1), gone(3), gone(4)})
}

func TestNoPolicyFillsABucket(t *testing.T) { // P17.4
	r := rand.New(rand.NewSource(1))
	l := []api.Tenant{}
	for range 5000 {
		id, out := 1+r.Intn(16), r.Intn(9)-1
		was, _ := policy.Find(l, id)
		switch r.Intn(3) {
		case 0:
			l, _ = policy.Delete(l, id, out)
			if policy.Get(l, id).E != api.ErrTenant {
				t.Fatal("still there")
			}
		case 1:
			rate, burst := r.Intn(1000), r.Intn(100)
			l, _ = policy.Put(l, id, rate, burst, out)
			if policy.Get(l, id) != (api.Answer{Rate: rate, Burst: burst}) {
				t.Fatal("not what was put")
			}
			if is, _ := policy.Find(l, id); is.Bucket > was.Bucket || is.Bucket != 0 && is.Bucket+1000*max(out, 0) > 1000*burst {
				t.Fatal(was, is)
			}
		default:
			if was.Id > 0 && !was.Gone {
				was.Bucket = r.Intn(50000)
				l, _ = policy.Set(l, was)
			}
		}
		if !policy.Check(l) {
			t.Fatal(l)
		}
	}
}
