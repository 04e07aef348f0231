package drive

import (
	"cmp"
	"slices"

	"weir/api"
)

// Windows: P32.2.
func Windows(l []api.Sent, tenant, width, ticks int) []int {
	if width < 1 || !within(ticks, 1, api.MaxTick) {
		return nil
	}
	width = min(width, api.MaxTick)
	n := min((ticks+width-1)/width, api.MaxCourse)
	return each(n, func(k int) int {
		return sum(l, of(tenant), func(x api.Sent) bool { return x.Tick > k*width && x.Tick <= (k+1)*width })
	})
}

// Peak: P32.2.
func Peak(l []api.Sent, tenant, width int) int {
	if width < 1 {
		return 0
	}
	width = min(width, api.MaxTick)
	mine := slices.DeleteFunc(slices.Clone(l), func(x api.Sent) bool { return x.Tenant != tenant })
	slices.SortStableFunc(mine, func(a, b api.Sent) int { return cmp.Compare(a.Tick, b.Tick) })
	first, out, peak := 0, 0, 0
	for k, x := range mine {
		out += x.Size
		for apart(mine[first].Tick, x.Tick) >= uint64(width) {
			out -= mine[first].Size
			first++
		}
		last := k == len(mine)-1 || mine[k+1].Tick > x.Tick
		if last {
			peak = max(peak, out)
		}
	}
	return peak
}

// Tenants: P32.2.
func Tenants(l []api.Sent) []int {
	all := each(len(l), func(k int) int { return l[k].Tenant })
	slices.Sort(all)
	return slices.Compact(all)
}

// each is what is made of 0 to n - 1.
func each[T any](n int, of func(k int) T) []T {
	var out []T
	for k := range n {
		out = append(out, of(k))
	}
	return out
}

// sum is how many bytes the packets have for which all of this holds.
func sum(l []api.Sent, holds ...func(api.Sent) bool) int {
	n := 0
packets:
	for _, x := range l {
		for _, ask := range holds {
			if !ask(x) {
				continue packets
			}
		}
		n += x.Size
	}
	return n
}

// of asks whether a packet is a tenant's.
func of(tenant int) func(api.Sent) bool {
	return func(x api.Sent) bool { return x.Tenant == tenant }
}

// apart is how far a tick is behind another one that is not behind it, however far that is.
func apart(from, to int) uint64 { return uint64(to) - uint64(from) }
