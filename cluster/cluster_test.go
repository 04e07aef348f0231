package cluster_test

import (
	"math"
	"reflect"
	"slices"
	"testing"

	"weir/api"
	"weir/cluster"
	"weir/control"
	"weir/packet"
	"weir/state"
	"weir/wire"
)

// small is a plan of one controller and one shaper.
func small() api.Plan {
	return api.Plan{Nodes: 1, Set: 1, Shapers: 1, Flows: []api.Flow{{Tenant: 1, Weight: 1, Room: 9}}, Lease: 20, Least: 1, Most: 500, Elect: 10, Beat: 2}
}

func begin(t *testing.T, p api.Plan) *cluster.Cluster {
	t.Helper()
	c, e := cluster.New(p)
	if e != api.OK {
		t.Fatal(e)
	}
	return c
}

// do does events, and fails unless all are OK.
func do(t *testing.T, c *cluster.Cluster, l ...api.Event) {
	t.Helper()
	for k, x := range l {
		if e := c.Do(x); e != api.OK {
			t.Fatalf("event %d, %v: %v", k, x, e)
		}
	}
}

// settle delivers all that is under way.
func settle(t *testing.T, c *cluster.Cluster) {
	t.Helper()
	for n := 0; c.Len() > 0 && n < 500; n++ {
		do(t, c, api.Event{Kind: api.EvDeliver})
	}
}

func tick(n int, wishes ...int) api.Event {
	return api.Event{Kind: api.EvTick, Ticks: n, Wishes: wishes}
}

func put(node, client, number, tenant, rate, burst int) api.Event {
	return api.Event{Kind: api.EvCall, Node: node, Command: api.Command{Kind: api.CmdPut, Client: client, Number: number, Tenant: tenant, Rate: rate, Burst: burst}}
}

// pk is a packet that comes in at shaper 1.
func pk(t *testing.T, tenant, size int) api.Event {
	t.Helper()
	b, e := packet.Build(api.Packet{Tenant: tenant, Load: make([]byte, size-8)})
	if e != api.OK {
		t.Fatal(e)
	}
	return api.Event{Kind: api.EvPacket, Node: 1, B: b}
}

// led is a cluster whose controller 1, alone in its set, leads.
func led(t *testing.T, p api.Plan) *cluster.Cluster {
	t.Helper()
	c := begin(t, p)
	do(t, c, tick(2*p.Elect))
	if c.Leader() != 1 {
		t.Fatal("no leader")
	}
	return c
}

func TestNew(t *testing.T) { // P31.1
	for n, change := range []func(*api.Plan){
		func(p *api.Plan) { p.Nodes = 0 }, func(p *api.Plan) { p.Nodes = 128 }, func(p *api.Plan) { p.Set = 0 }, func(p *api.Plan) { p.Set = 255 }, func(p *api.Plan) { p.Shapers = 0 }, func(p *api.Plan) { p.Shapers = 9 }, func(p *api.Plan) { p.Flows = nil }, func(p *api.Plan) { p.Flows = []api.Flow{{}} },
		func(p *api.Plan) { p.Lease = 0 }, func(p *api.Plan) { p.Lease = 1<<20 + 1 }, func(p *api.Plan) { p.Least = 0 }, func(p *api.Plan) { p.Least = api.MaxBurst + 1 }, func(p *api.Plan) { p.Most = 0 }, func(p *api.Plan) { p.Most = api.MaxBurst + 1 }, func(p *api.Plan) { p.Rho = -1 }, func(p *api.Plan) { p.Rho = 201 },
		func(p *api.Plan) { p.Elect = 0 }, func(p *api.Plan) { p.Elect = 1<<20 + 1 }, func(p *api.Plan) { p.Beat = 0 }, func(p *api.Plan) { p.Beat = math.MaxInt }, func(p *api.Plan) { p.Draws = make([]int, 65) },
	} {
		p := small()
		change(&p)
		c, e := cluster.New(p)
		o, errs, f := cluster.Run(p, make([]api.Event, 2000))
		if c != nil || e != api.ErrArg || f != api.ErrArg || errs != nil || !reflect.DeepEqual(o, api.Outcome{}) {
			t.Error(n, e, f)
		}
	}
	p := small()
	p.Nodes, p.Set, p.Shapers, p.Draws = 127, 6, 8, make([]int, 64)
	c := begin(t, p)
	if c.Len() != 0 || c.Now() != 0 || c.Leader() != 0 {
		t.Error("fresh")
	}
	if s, applied, e := c.State(7); e != api.OK || applied != 0 || !state.Same(s, state.New()) {
		t.Error(s, applied, e)
	}
	if _, errs, e := cluster.Run(small(), make([]api.Event, 1025)); e != api.ErrLong || errs != nil {
		t.Error(e)
	}
}

func TestNil(t *testing.T) { // P31.1, P31.2
	var c *cluster.Cluster
	_, a := c.Message(0)
	_, _, b := c.State(0)
	if c.Do(api.Event{Kind: -1}) != api.ErrNil || a != api.ErrNil || b != api.ErrNil || c.Len() != 0 || c.Now() != 0 || c.Leader() != 0 || c.Tokens(1, 1) != 0 || !reflect.DeepEqual(c.Outcome(), api.Outcome{}) {
		t.Error("nil")
	}
}

// TestThrough lets one packet through from beginning to end.
func TestThrough(t *testing.T) { // P31.1, P31.2
	c := led(t, small())
	do(t, c, put(1, 1, 1, 1, 1000, 100))
	settle(t, c)
	do(t, c, pk(t, 1, 60), tick(100))
	want := api.Event{Kind: api.EvWant, Node: 1, To: 1}
	do(t, c, want)
	m, e := c.Message(0)
	if x, _, f := wire.ReadCommand(m.Data); e != api.OK || f != api.OK || m.Kind != api.MsgLeaseAsk || m.From != 101 || m.To != 1 || x.Kind != api.CmdGrant || x.Size != 60 || x.Tenant != 1 || x.Epoch != 1 || x.Number != 1 {
		t.Error(m, x, e, f)
	}
	do(t, c, want) // asked again as it is
	settle(t, c)
	if c.Tokens(1, 1) != 60 || c.Tokens(1, 2) != 0 || c.Tokens(2, 1) != 0 || c.Tokens(0, 1) != 0 {
		t.Error("tokens", c.Tokens(1, 1))
	}
	do(t, c, want) // it has as many as wait
	if c.Len() != 0 {
		t.Error("asked for nothing")
	}
	do(t, c, tick(3), api.Event{Kind: api.EvPump, Node: 1, K: 500})
	o := c.Outcome()
	if !reflect.DeepEqual(o.Sent, []api.Sent{{Tick: 123, Shaper: 1, Tenant: 1, Flow: 0, Size: 60, Packet: 1}}) || len(o.Bytes) != 1 || !slices.Equal(o.Bytes[0], pk(t, 1, 60).B) || len(o.In) != 1 || !slices.Equal(o.In[0], o.Bytes[0]) || !slices.Equal(o.Where, []int{1}) || o.Tick != 123 || c.Now() != 123 {
		t.Error(o)
	}
	if !reflect.DeepEqual(o.Force, []api.Force{{Tick: 20, Tenant: 1, Rate: 1000, Burst: 100}}) {
		t.Error(o.Force)
	}
	if len(o.Calls) != 1 || o.Calls[0].From != 2 || o.Calls[0].To != 4 || o.Calls[0].Answer != (api.Answer{Rate: 1000, Burst: 100}) {
		t.Error(o.Calls)
	}
	if c.Tokens(1, 1) != 0 {
		t.Error("spent")
	}
	do(t, c, api.Event{Kind: api.EvReport, Node: 1, To: 1}, api.Event{Kind: api.EvReport, Node: 1, To: 1})
	if c.Len() != 1 {
		t.Error("reports", c.Len())
	}
	settle(t, c)
	if s, _, _ := c.State(1); len(s.Leases) != 0 {
		t.Error(s.Leases)
	}
	o.Sent[0].Size, o.Bytes[0][0], o.In[0][0], o.Where[0], o.Force[0].Rate, o.Calls[0].From = 9, 9, 9, 9, 9, 9
	if o := c.Outcome(); o.Sent[0].Size != 60 || o.Bytes[0][0] == 9 || o.In[0][0] == 9 || o.Where[0] != 1 || o.Force[0].Rate != 1000 || o.Calls[0].From != 2 {
		t.Error("shared")
	}
}

func TestErrors(t *testing.T) { // P31.1
	c := begin(t, small())
	call := func(kind int8, node, client, number int) api.Event {
		return api.Event{Kind: api.EvCall, Node: node, Command: api.Command{Kind: kind, Client: client, Number: number, Tenant: 1}}
	}
	for n, x := range []struct {
		x    api.Event
		want api.Errno
	}{
		{api.Event{Kind: -1}, api.ErrArg}, {api.Event{Kind: 16}, api.ErrArg}, {api.Event{Kind: 127}, api.ErrArg}, {tick(-1), api.ErrArg}, {tick(1000001), api.ErrArg}, {tick(0), api.OK},
		{api.Event{Kind: api.EvDeliver}, api.ErrNone}, {api.Event{Kind: api.EvLose}, api.ErrNone}, {api.Event{Kind: api.EvDouble}, api.ErrNone}, {api.Event{Kind: api.EvDeliver, K: -1}, api.ErrNone},
		{api.Event{Kind: api.EvCut, From: 0, To: 1}, api.ErrArg}, {api.Event{Kind: api.EvMend, From: 1, To: 256}, api.ErrArg}, {api.Event{Kind: api.EvCut, From: 1, To: 2}, api.OK}, {api.Event{Kind: api.EvMend, From: 1, To: 2}, api.OK},
		{api.Event{Kind: api.EvCrash}, api.ErrArg}, {api.Event{Kind: api.EvCrash, Node: 2}, api.ErrArg}, {api.Event{Kind: api.EvCrash, Node: 102}, api.ErrArg}, {api.Event{Kind: api.EvArm, Node: 2}, api.ErrArg}, {api.Event{Kind: api.EvArm, Node: 1, K: -1}, api.ErrArg}, {api.Event{Kind: api.EvArm, Node: 101, K: 5}, api.OK},
		{api.Event{Kind: api.EvStart, Node: 2}, api.ErrArg}, {api.Event{Kind: api.EvStart, Node: 1}, api.ErrTwice}, {api.Event{Kind: api.EvStart, Node: 101}, api.ErrTwice},
		{call(api.CmdPut, 2, 1, 1), api.ErrArg}, {call(api.CmdGrant, 1, 1, 1), api.ErrArg}, {call(0, 1, 1, 1), api.ErrArg}, {call(api.CmdGet, 1, 0, 1), api.ErrArg}, {call(api.CmdGet, 1, 17, 1), api.ErrArg}, {call(api.CmdGet, 1, 1, 0), api.ErrArg}, {call(api.CmdGet, 1, 16, 1), api.OK},
		{api.Event{Kind: api.EvAdd, Node: 3, K: 2}, api.ErrArg}, {api.Event{Kind: api.EvRemove, Node: 0, K: 2}, api.ErrArg}, {api.Event{Kind: api.EvAdd, Node: 1, K: 99}, api.OK},
		{api.Event{Kind: api.EvPacket, Node: 0}, api.ErrArg}, {api.Event{Kind: api.EvPacket, Node: 2}, api.ErrArg}, {api.Event{Kind: api.EvPacket, Node: 1}, api.ErrHead}, {pk(t, 2, 9), api.ErrTenant}, {pk(t, 1, 9), api.OK},
		{api.Event{Kind: api.EvPump, Node: 2}, api.ErrArg}, {api.Event{Kind: api.EvPump, Node: 1, K: -9}, api.OK}, {api.Event{Kind: api.EvWant, Node: 2, To: 1}, api.ErrArg}, {api.Event{Kind: api.EvWant, Node: 1, To: 2}, api.ErrArg}, {api.Event{Kind: api.EvWant, Node: 1, To: 101}, api.ErrArg}, {api.Event{Kind: api.EvReport, Node: 1}, api.ErrArg}, {api.Event{Kind: api.EvReport, Node: 1, To: 1}, api.OK},
		{api.Event{Kind: api.EvCrash, Node: 101}, api.OK}, {api.Event{Kind: api.EvArm, Node: 101}, api.ErrDown}, {pk(t, 1, 9), api.ErrDown}, {api.Event{Kind: api.EvPump, Node: 1}, api.ErrDown}, {api.Event{Kind: api.EvWant, Node: 1, To: 1}, api.ErrDown}, {api.Event{Kind: api.EvReport, Node: 1, To: 1}, api.ErrDown}, {api.Event{Kind: api.EvWant, Node: 1, To: 5}, api.ErrArg},
		{api.Event{Kind: api.EvCrash, Node: 101}, api.OK}, {api.Event{Kind: api.EvStart, Node: 101}, api.OK}, {api.Event{Kind: api.EvPump, Node: 1}, api.OK},
	} {
		if e := c.Do(x.x); e != x.want {
			t.Error(n, x.x.Kind, e)
		}
	}
	if _, _, e := c.State(2); e != api.ErrNone {
		t.Error(e)
	}
	if _, _, e := c.State(101); e != api.ErrNone {
		t.Error(e)
	}
	do(t, c, api.Event{Kind: api.EvCrash, Node: 1})
	if _, _, e := c.State(1); e != api.ErrDown {
		t.Error(e)
	}
	if _, e := c.Message(99); e != api.ErrNone {
		t.Error(e)
	}
	for range 9 {
		c.Do(pk(t, 1, 9))
	}
	if e := c.Do(pk(t, 1, 9)); e != api.ErrFull || len(c.Outcome().In) != 10 {
		t.Error(e, len(c.Outcome().In))
	}
	do(t, c, call(api.CmdGet, 1, 2, 1))
	for c.Len() < 1024 {
		do(t, c, api.Event{Kind: api.EvDouble})
	}
	if e := c.Do(api.Event{Kind: api.EvDouble}); e != api.ErrFull {
		t.Error(e)
	}
}

func TestClocks(t *testing.T) { // P31.1
	p := small()
	p.Rho, p.Shapers = 100, 2
	c := begin(t, p)
	do(t, c, tick(10, 9000), tick(1, 0, 1100)) // the controller's clock is at 9900
	if c.Leader() != 0 || c.Now() != 11 {
		t.Error("too early")
	}
	do(t, c, tick(1, 99999)) // 11000
	if c.Leader() != 1 {
		t.Error("no leader")
	}
	do(t, c, put(1, 1, 1, 1, 1000, 100), api.Event{Kind: api.EvDeliver}, api.Event{Kind: api.EvDeliver}, tick(100), pk(t, 1, 60), api.Event{Kind: api.EvWant, Node: 1, To: 1})
	settle(t, c)
	if c.Tokens(1, 1) != 60 {
		t.Fatal(c.Tokens(1, 1))
	}
	do(t, c, tick(22, 22000, 0)) // shaper 1's clock: 19800
	if c.Tokens(1, 1) != 60 {
		t.Error("its own clock does not say that it is over")
	}
	do(t, c, tick(1, 0, 0)) // 20700
	if c.Tokens(1, 1) != 0 {
		t.Error("over", c.Tokens(1, 1))
	}
	for range 3 {
		do(t, c, tick(1000000))
	}
}

func TestDraws(t *testing.T) { // P31.1
	p := small()
	p.Nodes, p.Set, p.Draws = 7, 7, []int{30000, 0, 20000, 40000}
	c := begin(t, p) // node 1 begins with draw 1, node 2 with draw 2, node 3 with draw 3; modulo 10000 all are 0
	do(t, c, tick(10))
	if c.Len() != 6 {
		t.Error(c.Len())
	}
	p.Elect, p.Draws = 50, []int{30000, 9000, 20000, 4000}
	c = begin(t, p)
	do(t, c, tick(54))
	if m, _ := c.Message(0); c.Len() != 2 || m.From != 3 {
		t.Error(c.Len(), m)
	}
	do(t, c, tick(5))
	if m, _ := c.Message(2); c.Len() != 4 || m.From != 1 {
		t.Error(c.Len(), m)
	}
}

func TestCalls(t *testing.T) { // P31.1
	p := small()
	p.Nodes = 3 // controller 2 is not in the set
	c := led(t, p)
	data := func(k int) api.Command {
		m, e := c.Message(k)
		x, _, f := wire.ReadCommand(m.Data)
		if e != api.OK || f != api.OK || m.Kind != api.MsgCall {
			t.Fatal(m, e, f)
		}
		return x
	}
	first := put(2, 3, 5, 1, 1000, 100)
	first.Command.Leases = []int{1, 2}
	do(t, c, first)
	other := put(1, 3, 5, 9, 7, 7)
	other.Command.Kind = api.CmdDelete
	do(t, c, other)
	if x, y := data(0), data(1); x.Leases != nil || x.Rate != 1000 || !reflect.DeepEqual(x, y) {
		t.Error(x, y)
	}
	if m, _ := c.Message(1); m.From != 203 || m.To != 1 {
		t.Error(m)
	}
	for _, number := range []int{4, 6, 1} {
		if e := c.Do(put(1, 3, number, 1, 1, 1)); e != api.ErrBusy {
			t.Error(number, e)
		}
	}
	do(t, c, put(1, 4, 1, 2, 5, 5))                                                // another client
	do(t, c, api.Event{Kind: api.EvDeliver}, api.Event{Kind: api.EvDeliver, K: 2}) // ErrLeader of 2
	if o := c.Outcome(); o.Calls[0].To != 0 {
		t.Error("ErrLeader is no answer", o.Calls)
	}
	do(t, c, api.Event{Kind: api.EvDouble}, api.Event{Kind: api.EvDeliver}, api.Event{Kind: api.EvDeliver, K: 1}, api.Event{Kind: api.EvDeliver, K: 1}, api.Event{Kind: api.EvDeliver, K: 1}, api.Event{Kind: api.EvDeliver}, api.Event{Kind: api.EvDeliver})
	o := c.Outcome()
	if len(o.Calls) != 2 || c.Len() != 0 {
		t.Fatal(o.Calls, c.Len())
	}
	a, b := o.Calls[0], o.Calls[1]
	if a.From != 2 || a.To == 0 || a.Answer != (api.Answer{Rate: 1000, Burst: 100}) || a.Command.Leases != nil || b.From != 7 || b.To == 0 || b.To == a.To {
		t.Error(a, b)
	}
	if e := c.Do(put(1, 3, 5, 1, 1, 1)); e != api.ErrBusy {
		t.Error("a number that is over", e)
	}
	do(t, c, put(1, 3, 9, 1, -1, 1))
	settle(t, c)
	if o := c.Outcome(); len(o.Calls) != 3 || o.Calls[2].Answer != (api.Answer{E: api.ErrRate}) || len(o.Force) != 2 {
		t.Error(o.Calls, o.Force)
	}
	do(t, c, api.Event{Kind: api.EvAdd, Node: 1, K: 2})
	if m, _ := c.Message(0); m.From != 201 || m.To != 1 {
		t.Error(m)
	}
	if x := data(0); x.Kind != api.CmdAdd || x.Size != 2 {
		t.Error(x)
	}
	settle(t, c)
	do(t, c, tick(4))
	settle(t, c)
	do(t, c, api.Event{Kind: api.EvRemove, Node: 1, K: 1})
	settle(t, c)
	do(t, c, tick(4))
	settle(t, c)
	do(t, c, tick(40))
	settle(t, c)
	if c.Leader() != 2 || len(c.Outcome().Calls) != 3 {
		t.Error(c.Leader(), c.Outcome().Calls)
	}
}

func TestForce(t *testing.T) { // P31.2
	p := small()
	p.Nodes, p.Set, p.Draws = 7, 7, []int{0, 3000, 6000}
	c := begin(t, p)
	for range 40 {
		do(t, c, tick(1))
		settle(t, c)
		if c.Leader() != 0 {
			break
		}
	}
	l := c.Leader()
	settle(t, c)
	do(t, c, tick(1))
	settle(t, c)
	at := c.Now()
	do(t, c, put(l, 1, 1, 1, 1000, 100), api.Event{Kind: api.EvDeliver})
	if len(c.Outcome().Force) != 0 {
		t.Error("not taken yet")
	}
	for k := 1; k <= 3; k++ {
		do(t, c, api.Event{Kind: api.EvCut, From: l, To: k}, api.Event{Kind: api.EvCut, From: k, To: l})
	}
	settle(t, c)
	do(t, c, tick(1))
	for k := 1; k <= 3; k++ {
		do(t, c, api.Event{Kind: api.EvMend, From: l, To: k}, api.Event{Kind: api.EvMend, From: k, To: l})
	}
	do(t, c, tick(3))
	settle(t, c)
	want := []api.Force{{Tick: at, Tenant: 1, Rate: 1000, Burst: 100}}
	if o := c.Outcome(); !reflect.DeepEqual(o.Force, want) {
		t.Error(o.Force, at)
	}
	do(t, c, put(l, 1, 2, 1, 1000, -1))
	settle(t, c)
	del := put(l, 1, 3, 1, 0, 0)
	del.Command.Kind = api.CmdDelete
	do(t, c, del)
	settle(t, c)
	del.Command.Number = 4
	do(t, c, del)
	settle(t, c)
	want = append(want, api.Force{Tick: c.Now(), Tenant: 1})
	if o := c.Outcome(); !reflect.DeepEqual(o.Force, want) {
		t.Error(o.Force)
	}
}

func TestWants(t *testing.T) { // P31.1
	p := small()
	p.Flows = []api.Flow{{Tenant: 5, Weight: 1, Room: 9}, {Tenant: 2, Weight: 1, Room: 9}, {Tenant: 9, Weight: 1, Room: 9}}
	p.Most = 70
	c := led(t, p)
	for k, tenant := range []int{2, 5, 9} {
		do(t, c, put(1, 1, k+1, tenant, 1000, 1000))
		settle(t, c)
	}
	do(t, c, tick(500), pk(t, 5, 50), pk(t, 9, 60), pk(t, 9, 60))
	asks := func(tenant, size int) {
		t.Helper()
		do(t, c, api.Event{Kind: api.EvWant, Node: 1, To: 1})
		m, e := c.Message(c.Len() - 1)
		x, _, f := wire.ReadCommand(m.Data)
		if e != api.OK || f != api.OK || x.Tenant != tenant || x.Size != size {
			t.Error(x.Tenant, x.Size, e, f)
		}
		settle(t, c)
	}
	asks(5, 50)
	do(t, c, pk(t, 2, 20))
	asks(9, 70) // at most Most, and behind 5
	asks(2, 20) // round and round
	asks(9, 50) // 5 has enough
	do(t, c, pk(t, 5, 10), pk(t, 2, 20), pk(t, 9, 8))
	asks(2, 20)
	asks(5, 10)
	do(t, c, api.Event{Kind: api.EvCrash, Node: 101}, api.Event{Kind: api.EvStart, Node: 101})
	if c.Tokens(1, 9) != 0 {
		t.Error("a shaper that began anew holds tokens")
	}
	do(t, c, pk(t, 9, 10), pk(t, 5, 11))
	do(t, c, api.Event{Kind: api.EvWant, Node: 1, To: 1})
	m, _ := c.Message(c.Len() - 1)
	if x, _, _ := wire.ReadCommand(m.Data); x.Tenant != 5 || x.Size != 11 || x.Epoch != 2 || x.Number != 1 {
		t.Error(x)
	}
}

func TestCrashes(t *testing.T) { // P31.1, P31.2
	c := led(t, small())
	do(t, c, put(1, 1, 1, 1, 1000, 100), api.Event{Kind: api.EvDouble}, put(1, 2, 1, 2, 5, 5))
	do(t, c, api.Event{Kind: api.EvCrash, Node: 1})
	if c.Len() != 0 || c.Leader() != 0 {
		t.Error("messages to a node that crashes are gone")
	}
	do(t, c, put(1, 1, 1, 1, 1000, 100), api.Event{Kind: api.EvDeliver}) // to a node that is down
	if c.Len() != 0 {
		t.Error(c.Len())
	}
	do(t, c, tick(5), api.Event{Kind: api.EvStart, Node: 1}, tick(9))
	if c.Leader() != 0 {
		t.Error("its deadline begins anew")
	}
	do(t, c, tick(1))
	if c.Leader() != 1 {
		t.Error("no leader")
	}
	do(t, c, api.Event{Kind: api.EvArm, Node: 1, K: 0}, put(1, 1, 1, 1, 1000, 100), api.Event{Kind: api.EvDeliver})
	if c.Leader() != 0 || c.Len() != 0 {
		t.Error("its keeper is down")
	}
	if _, applied, e := c.State(1); e != api.OK || applied != 2 {
		t.Error("it is up, though", applied, e)
	}
	if e := c.Do(api.Event{Kind: api.EvStart, Node: 1}); e != api.ErrTwice {
		t.Error(e)
	}
	if e := c.Do(api.Event{Kind: api.EvArm, Node: 1}); e != api.ErrDown {
		t.Error(e)
	}
	do(t, c, api.Event{Kind: api.EvCrash, Node: 1}, api.Event{Kind: api.EvStart, Node: 1}, tick(10))
	if c.Leader() != 1 {
		t.Error("no leader")
	}
	do(t, c, api.Event{Kind: api.EvArm, Node: 101, K: 0}, api.Event{Kind: api.EvCrash, Node: 101, Plan: nil}, api.Event{Kind: api.EvStart, Node: 101})
	if e := c.Do(pk(t, 1, 9)); e != api.OK {
		t.Error("a crash disarms", e)
	}
}

// TestTwoLeaders: of a leader that is cut off and a later one it is the later one.
func TestTwoLeaders(t *testing.T) { // P31.2
	for first := 1; first <= 3; first++ {
		p := small()
		p.Nodes, p.Set, p.Draws = 7, 7, []int{6000, 6000, 6000}
		p.Draws[(3-first+1)%3] = 3000 // who turns it so far begins first
		c := begin(t, p)
		until := func(old int) {
			for n := 0; c.Leader() == old && n < 90; n++ {
				do(t, c, tick(1))
				for k := 0; c.Len() > 0 && k < 90; k++ {
					do(t, c, api.Event{Kind: api.EvDeliver})
				}
			}
		}
		until(0)
		old := c.Leader()
		for k := 1; k <= 3; k++ {
			do(t, c, api.Event{Kind: api.EvCut, From: old, To: k}, api.Event{Kind: api.EvCut, From: k, To: old})
		}
		until(old)
		later := c.Leader()
		if old == 0 || later == 0 || later == old {
			t.Fatal(old, later)
		}
		do(t, c, api.Event{Kind: api.EvCrash, Node: later})
		if c.Leader() != old {
			t.Error("it leads still", c.Leader(), old)
		}
	}
}

// TestEndOfTime: no more than MaxTick true ticks go by.
func TestEndOfTime(t *testing.T) { // P31.1
	c := begin(t, small())
	do(t, c, api.Event{Kind: api.EvCrash, Node: 1}, api.Event{Kind: api.EvCrash, Node: 101})
	for range api.MaxTick / 1000000 {
		c.Do(tick(1000000))
	}
	left := api.MaxTick % 1000000
	if c.Do(tick(left+1)) != api.ErrArg || c.Do(tick(left)) != api.OK || c.Do(tick(1)) != api.ErrArg || c.Do(tick(0)) != api.OK || c.Now() != api.MaxTick {
		t.Error(c.Now())
	}
}

func TestPlanIsNotKept(t *testing.T) {
	p := small()
	p.Draws = []int{5000}
	c := begin(t, p)
	p.Flows[0], p.Draws[0] = api.Flow{}, 0
	do(t, c, api.Event{Kind: api.EvCrash, Node: 101}, api.Event{Kind: api.EvStart, Node: 101}, pk(t, 1, 9), api.Event{Kind: api.EvCrash, Node: 1}, api.Event{Kind: api.EvStart, Node: 1}, tick(14))
	if c.Leader() != 0 {
		t.Error("draws")
	}
	p = small()
	p.Lease, p.Least, p.Most, p.Elect, p.Beat = 1, 1, 1, 1, 1
	begin(t, p)
	p.Lease, p.Least, p.Most, p.Elect, p.Beat, p.Rho = 1<<20, api.MaxBurst, api.MaxBurst, 1<<20, 1<<20, 200
	begin(t, p)
}

func TestRun(t *testing.T) { // P31.2
	l := []api.Event{tick(20), put(1, 1, 1, 1, 1000, 100), {Kind: api.EvDeliver}, {Kind: 99}, {Kind: api.EvDeliver}}
	o, errs, e := cluster.Run(small(), l)
	if e != api.OK || !slices.Equal(errs, []api.Errno{0, 0, 0, api.ErrArg, 0}) || len(o.Calls) != 1 || o.Calls[0].To != 5 || len(o.Force) != 1 || o.Tick != 20 {
		t.Error(o, errs, e)
	}
	if o, errs, e := cluster.Run(small(), nil); e != api.OK || len(errs) != 0 || o.Tick != 0 {
		t.Error(o, errs, e)
	}
}

// TestStrayMessages: what is told to whom it does not concern changes nothing.
func TestStrayMessages(t *testing.T) {
	c := led(t, small())
	do(t, c, put(1, 1, 1, 1, 1000, 100), api.Event{Kind: api.EvDeliver})
	m, _ := c.Message(0)
	if x, _, e := control.Answer(m); e != api.OK || m.To != 201 || x.Client != 1 {
		t.Fatal(m)
	}
	do(t, c, api.Event{Kind: api.EvDouble}, api.Event{Kind: api.EvDeliver}, api.Event{Kind: api.EvDeliver})
	if o := c.Outcome(); o.Calls[0].To != 5 {
		t.Error("answered twice", o.Calls)
	}
}
