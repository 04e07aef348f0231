package cluster_test

import (
	"math/rand"
	"strconv"
	"testing"

	"weir/api"
	"weir/cluster"
	"weir/history"
	"weir/judge"
	"weir/packet"
)

// script makes random events: number counts the clients' calls.
type script struct {
	r      *rand.Rand
	plan   api.Plan
	number [3]int
	calls  int
	cuts   [][2]int
	calm   bool // nothing breaks
}

func (s *script) plans() {
	r := s.r
	s.plan = api.Plan{
		Nodes: 7, Set: 7, Shapers: 1 + r.Intn(3), Lease: 10 + r.Intn(60), Least: 1 + r.Intn(10), Most: 50 + r.Intn(300), Rho: r.Intn(3) * 100, Elect: 30 + r.Intn(20), Beat: 6 + r.Intn(6),
		Draws: []int{r.Intn(30000), r.Intn(30000), r.Intn(30000), r.Intn(30000), r.Intn(30000)},
		Flows: []api.Flow{{Tenant: 1, Weight: 3, Room: 8}, {Tenant: 1, Weight: 1, Room: 8}, {Tenant: 2, Weight: 2, Room: 8}},
	}
	if r.Intn(4) == 0 {
		s.plan.Nodes = 15
	}
}

func (s *script) node() int {
	if s.r.Intn(4) == 0 {
		return api.Shapers + 1 + s.r.Intn(s.plan.Shapers)
	}
	return 1 + s.r.Intn(3)
}

func (s *script) pieces() []api.Piece {
	l := []api.Piece{{Name: "hard.a", Keep: s.r.Intn(60)}, {Name: "hard.b", Keep: s.r.Intn(60)}, {Name: "boot.a", Keep: s.r.Intn(60)}}
	for k := range 12 {
		l = append(l, api.Piece{Name: "log." + strconv.Itoa(k), Keep: s.r.Intn(300)})
	}
	return l
}

// ticks lets time go by, each clock as it likes.
func (s *script) ticks() api.Event {
	n := 1 + s.r.Intn(3)
	x := api.Event{Kind: api.EvTick, Ticks: n}
	for range 6 {
		x.Wishes = append(x.Wishes, n*(700+s.r.Intn(600)))
	}
	return x
}

// call is a client's call: of a new number, or again.
func (s *script) call(leader int) api.Event {
	client := 1 + s.r.Intn(2)
	number := s.number[client]
	if s.calls < api.MaxCalls && s.r.Intn(2) > 0 || number == 0 {
		number++
	}
	y := api.Command{Kind: []int8{api.CmdPut, api.CmdPut, api.CmdPut, api.CmdPut, api.CmdGet, api.CmdDelete}[s.r.Intn(6)], Client: client, Number: number, Tenant: 1 + s.r.Intn(2), Rate: s.r.Intn(80000), Burst: s.r.Intn(2000)}
	return api.Event{Kind: api.EvCall, Node: leader, Command: y}
}

// did takes what became of an event: a call of a new number has begun.
func (s *script) did(x api.Event, e api.Errno) {
	if x.Kind == api.EvCall && e == api.OK && x.Command.Number > s.number[x.Command.Client] {
		s.number[x.Command.Client]++
		s.calls++
	}
}

// next is a random event; c tells who leads.
func (s *script) next(c *cluster.Cluster) api.Event {
	r := s.r
	leader := max(1, c.Leader())
	shaper := 1 + r.Intn(s.plan.Shapers)
	if n := c.Len(); n > 40 || n > 0 && r.Intn(100) < 80 {
		return api.Event{Kind: api.EvDeliver, K: r.Intn(min(c.Len(), 3))}
	}
	most := 1000
	if s.calm {
		most = 840
	}
	switch k := r.Intn(most); {
	case k < 200:
		return s.ticks()
	case k < 400:
		b, _ := packet.Build(api.Packet{Tenant: 1 + r.Intn(2), Class: r.Intn(3), Load: make([]byte, r.Intn(200))})
		return api.Event{Kind: api.EvPacket, Node: shaper, B: b}
	case k < 600:
		return api.Event{Kind: api.EvWant, Node: shaper, To: leader}
	case k < 750:
		return api.Event{Kind: api.EvPump, Node: shaper, K: r.Intn(900)}
	case k < 800:
		return api.Event{Kind: api.EvReport, Node: shaper, To: leader}
	case k < 840:
		return s.call(leader)
	case k < 900:
		return api.Event{Kind: api.EvStart, Node: s.node()}
	case k < 930:
		return api.Event{Kind: api.EvLose, K: r.Intn(c.Len() + 1)}
	case k < 960:
		return api.Event{Kind: api.EvDouble, K: r.Intn(c.Len() + 1)}
	case k < 966:
		s.cuts = append(s.cuts, [2]int{s.node(), s.node()})
		return api.Event{Kind: api.EvCut, From: s.cuts[len(s.cuts)-1][0], To: s.cuts[len(s.cuts)-1][1]}
	case k < 980 && len(s.cuts) > 0:
		cut := s.cuts[0]
		s.cuts = s.cuts[1:]
		return api.Event{Kind: api.EvMend, From: cut[0], To: cut[1]}
	case k < 985:
		return api.Event{Kind: api.EvCrash, Node: s.node(), Plan: s.pieces()}
	case k < 990:
		return api.Event{Kind: api.EvArm, Node: s.node(), K: r.Intn(9), Plan: s.pieces()}
	case k < 995 && s.plan.Nodes == 15:
		return api.Event{Kind: []int8{api.EvAdd, api.EvRemove}[r.Intn(2)], Node: leader, K: 1 + r.Intn(4)}
	}
	return s.ticks()
}

// whole holds what went out of each shaper against what came in, from start to start.
func whole(t *testing.T, seed int, p api.Plan, o api.Outcome, boots map[int][][2]int) {
	for k := 1; k <= p.Shapers; k++ {
		ends := append(boots[k], [2]int{len(o.In), len(o.Sent)})
		from := [2]int{}
		for _, to := range ends {
			var in, bytes [][]byte
			var out []api.Sent
			for n := from[0]; n < to[0]; n++ {
				if o.Where[n] == k {
					in = append(in, o.In[n])
				}
			}
			for n := from[1]; n < to[1]; n++ {
				if o.Sent[n].Shaper == k {
					out, bytes = append(out, o.Sent[n]), append(bytes, o.Bytes[n])
				}
			}
			if !judge.Whole(in, p.Flows, out, bytes) {
				t.Fatal(seed, "not whole", k)
			}
			from = to
		}
	}
}

// TestPromises does random scripts, and judges what they came to.
func TestPromises(t *testing.T) { // P31.3 to P31.5
	sent, answered, forces := 0, 0, 0
	for seed := range 50 {
		s := &script{r: rand.New(rand.NewSource(int64(seed))), calm: seed%2 == 0}
		s.plans()
		c, e := cluster.New(s.plan)
		if e != api.OK {
			t.Fatal(e)
		}
		boots := map[int][][2]int{}
		for range 5000 {
			x := s.next(c)
			s.did(x, c.Do(x))
			if x.Kind == api.EvCrash && x.Node > api.Shapers {
				o := c.Outcome()
				k := x.Node - api.Shapers
				boots[k] = append(boots[k], [2]int{len(o.In), len(o.Sent)})
			}
		}
		o := c.Outcome()
		h := (s.plan.Lease*1000 + 999 - s.plan.Rho) / (1000 - s.plan.Rho)
		if a, b, tenant, ok, e := judge.Kept(o.Sent, o.Force, h); !ok || e != api.OK {
			t.Fatal(seed, "the bound", a, b, tenant, e, judge.Out(o.Sent, tenant, a, b), judge.Bound(o.Force, tenant, a, b, h))
		}
		if _, ok, e := history.Fits(o.Calls); !ok || e != api.OK {
			t.Fatal(seed, "no order", e, o.Calls)
		}
		whole(t, seed, s.plan, o, boots)
		sent += len(o.Sent)
		forces += len(o.Force)
		for _, x := range o.Calls {
			if x.To > 0 {
				answered++
			}
		}
	}
	if sent < 1000 || answered < 300 || forces < 200 {
		t.Error("nothing comes of it", sent, answered, forces)
	}
	t.Log(sent, answered, forces)
}
