package history

import (
	"weir/api"
	"weir/bucket"
)

// place is where a search stands: which calls are in the row so far (bits), and what the table is then (its bytes).
type place struct {
	done  uint
	table string
}

// mayAsk: is it a command that the table can be asked?
func mayAsk(x api.Command) bool {
	return api.CmdPut <= x.Kind && x.Kind <= api.CmdDelete && isTenant(x.Tenant)
}

// mayBe: may a table be?
func mayBe(t []api.Force) bool {
	last := 0
	for _, f := range t {
		if f.Tick != 0 || f.Tenant <= last || !isTenant(f.Tenant) || !bucket.May(f.Rate, f.Burst) {
			return false
		}
		last = f.Tenant
	}
	return true
}

// isTenant: is it a tenant's number?
func isTenant(n int) bool { return 1 <= n && n <= api.MaxTenants }

// has: is a call in the row?
func has(done uint, k int) bool { return done>>k&1 == 1 }

// isAll: are all answered calls in the row?
func isAll(l []api.Call, done uint) bool {
	for k, c := range l {
		if c.To > 0 && !has(done, k) {
			return false
		}
	}
	return true
}

// mayStand: may a call come next, or was one that is still to come answered ahead of its beginning?
func mayStand(l []api.Call, done uint, next int) bool {
	for k, c := range l {
		if c.To > 0 && !has(done, k) && c.To < l[next].From {
			return false
		}
	}
	return true
}

// bytes tells a table from all others: rates and bursts have 20 bits.
func bytes(t []api.Force) string {
	var b []byte
	for _, f := range t {
		n := uint64(f.Tenant)<<40 | uint64(f.Rate)<<20 | uint64(f.Burst)
		for shift := 40; shift >= 0; shift -= 8 {
			b = append(b, byte(n>>shift))
		}
	}
	return string(b)
}
