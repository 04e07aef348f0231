package ledger

import (
	"slices"

	"weir/api"
	"weir/bucket"
	"weir/policy"
)

// whose is the tenant of what is out.
type whose struct{ tenant int }

// outs is how many bytes are out of each tenant.
func outs(s api.State) map[whose]int {
	o := map[whose]int{}
	for _, x := range s.Leases {
		o[whose{x.Tenant}] += x.Size - x.Spent
	}
	return o
}

// swept is a state without the tenants that are gone and of which nothing is out.
func swept(s api.State) api.State {
	o := outs(s)
	var l []int
	for id := 1; id <= api.MaxTenants; id++ {
		l = append(l, o[whose{id}])
	}
	s.Tenants = policy.Sweep(s.Tenants, l)
	return s
}

// back is the tenants, one of which gets back what was left of a lease; nothing goes back to one that is gone.
func back(s api.State, tenant, left int) []api.Tenant {
	t, _ := policy.Find(s.Tenants, tenant)
	if t.Gone {
		return s.Tenants
	}
	t.Bucket = bucket.Back(t.Bucket, t.Burst, outs(s)[whose{tenant}], left)
	l, _ := policy.Set(s.Tenants, t)
	return l
}

// may: may a lease be, but for its number?
func may(s api.State, x api.Lease) bool {
	_, ok := policy.Find(s.Tenants, x.Tenant)
	return ok && isShaper(x.Shaper) && x.Epoch >= 1 && x.Number >= 1 && isSize(x.Size) && 0 <= x.Spent && x.Spent < x.Size
}

// isShaper: is it a shaper's number?
func isShaper(n int) bool { return 1 <= n && n <= api.MaxShapers }

// isSize: may a lease be of so many bytes?
func isSize(n int) bool { return 1 <= n && n <= api.MaxBurst }

// place is where a lease stands, and whether it is there.
func place(l []api.Lease, lease int) (int, bool) {
	k := slices.IndexFunc(l, func(x api.Lease) bool { return x.Id == lease })
	return k, k >= 0
}

// without is a row but for those that go, in its order.
func without[T any](l []T, goes func(T) bool) []T {
	var out []T
	for _, x := range l {
		if !goes(x) {
			out = append(out, x)
		}
	}
	return out
}

// twin is a state that is the same, and shares nothing with this one.
func twin(s api.State) api.State {
	s.Tenants = slices.Clone(s.Tenants)
	s.Leases = slices.Clone(s.Leases)
	s.Sessions = slices.Clone(s.Sessions)
	s.Desks = slices.Clone(s.Desks)
	return s
}
