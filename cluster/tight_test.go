package cluster_test

import (
	"math/rand"
	"testing"

	"weir/api"
	"weir/cluster"
	"weir/history"
	"weir/judge"
	"weir/packet"
)

// extremes lets n ticks go by: each clock as fast, or as slow, as it may.
func extremes(r *rand.Rand, n int, fast bool) api.Event {
	x := api.Event{Kind: api.EvTick, Ticks: n}
	for k := range 7 {
		wish := 0 // as slow as may be
		if (k < 3) == fast || r.Intn(9) == 0 {
			wish = 2000 * n // as fast as may be
		}
		x.Wishes = append(x.Wishes, wish)
	}
	return x
}

// drain delivers what is under way, but not for ever.
func drain(c *cluster.Cluster) {
	for n := 0; c.Len() > 0 && n < 150; n++ {
		c.Do(api.Event{Kind: api.EvDeliver})
	}
}

// TestTight: shapers that always want more than there is, clocks at the ends of what they may, shapers cut off, leaders that fall.
func TestTight(t *testing.T) { // P31.3 to P31.5
	full := 0
	for seed := range 24 {
		r := rand.New(rand.NewSource(int64(seed)))
		p := api.Plan{Nodes: 7, Set: 7, Shapers: 3, Lease: 12 + r.Intn(20), Least: 1, Most: 200, Rho: r.Intn(3) * 100, Elect: 20, Beat: 3, Draws: []int{0, 7000, 14000},
			Flows: []api.Flow{{Tenant: 1, Weight: 1, Room: 30}}}
		if seed%3 == 0 {
			p.Nodes, p.Set = 1, 1
		}
		c, e := cluster.New(p)
		if e != api.OK {
			t.Fatal(e)
		}
		boots := map[int][][2]int{}
		number := 0
		cut := 0
		fast := seed%2 == 0
		for range 260 {
			c.Do(extremes(r, 1+r.Intn(2), fast))
			drain(c)
			leader := c.Leader()
			if leader == 0 {
				for k := 1; k <= 3; k++ {
					c.Do(api.Event{Kind: api.EvStart, Node: k})
				}
				continue
			}
			if number == 0 || number < 8 && r.Intn(40) == 0 {
				y := api.Command{Kind: api.CmdPut, Client: 1, Number: number + 1, Tenant: 1, Rate: 5000 + r.Intn(20000), Burst: 40 + r.Intn(100)}
				if c.Do(api.Event{Kind: api.EvCall, Node: leader, Command: y}) == api.OK {
					number++
				} else {
					y.Number = number
					c.Do(api.Event{Kind: api.EvCall, Node: leader, Command: y})
				}
				drain(c)
			}
			for _, k := range r.Perm(3) {
				for range 2 {
					b, _ := packet.Build(api.Packet{Tenant: 1, Load: make([]byte, r.Intn(8))})
					c.Do(api.Event{Kind: api.EvPacket, Node: k + 1, B: b})
				}
				c.Do(api.Event{Kind: api.EvWant, Node: k + 1, To: leader})
				if r.Intn(4) == 0 {
					c.Do(api.Event{Kind: api.EvReport, Node: k + 1, To: leader})
				}
			}
			drain(c)
			for k := range 3 {
				if r.Intn(3) > 0 {
					c.Do(api.Event{Kind: api.EvPump, Node: k + 1, K: 60})
				}
			}
			switch r.Intn(30) {
			case 0:
				c.Do(api.Event{Kind: api.EvCrash, Node: leader})
			case 1:
				c.Do(api.Event{Kind: api.EvMend, From: cut, To: leader})
				cut = api.Shapers + 1 + r.Intn(3)
				c.Do(api.Event{Kind: api.EvCut, From: cut, To: leader})
			case 2:
				o := c.Outcome()
				k := 1 + r.Intn(3)
				boots[k] = append(boots[k], [2]int{len(o.In), len(o.Sent)})
				c.Do(api.Event{Kind: api.EvCrash, Node: api.Shapers + k})
				c.Do(api.Event{Kind: api.EvStart, Node: api.Shapers + k})
			}
		}
		o := c.Outcome()
		h := (p.Lease*1000 + 999 - p.Rho) / (1000 - p.Rho)
		if a, b, tenant, ok, e := judge.Kept(o.Sent, o.Force, h); !ok || e != api.OK {
			t.Fatal(seed, "the bound", a, b, tenant, e, judge.Out(o.Sent, tenant, a, b), judge.Bound(o.Force, tenant, a, b, h))
		}
		if _, ok, e := history.Fits(o.Calls); !ok || e != api.OK {
			t.Fatal(seed, "no order", e, o.Calls)
		}
		whole(t, seed, p, o, boots)
		// how near it came to the bound, in stretches of ten ticks, in percent
		for at := 0; at < o.Tick; at += 10 {
			if n := judge.Bound(o.Force, 1, at, at+10, h); n > 0 {
				full = max(full, 100000*judge.Out(o.Sent, 1, at, at+10)/n)
			}
		}
	}
	if full < 60 {
		t.Error("far from the bound", full)
	}
	t.Log(full)
}
