package cluster

import (
	"slices"

	"weir/api"
	"weir/control"
	"weir/wire"
)

// mostStep is how many ticks go by at once at most.
const mostStep = 1000000

// deeds is what each kind of event does.
type deeds [api.EvReport + 1]func(api.Event) api.Errno

// client is what a client knows: the number of its last call, and whether that is under way, and which it is.
type client struct {
	number int
	under  bool
	call   int
}

// Do: P31.1.
func (c *Cluster) Do(x api.Event) api.Errno {
	if c == nil {
		return api.ErrNil
	}
	c.event++
	do := deeds{
		api.EvTick:    c.tick,
		api.EvDeliver: c.deliver,
		api.EvLose:    func(x api.Event) api.Errno { return c.air.Lose(x.K) },
		api.EvDouble:  func(x api.Event) api.Errno { return c.air.Double(x.K) },
		api.EvCut:     func(x api.Event) api.Errno { return c.air.Cut(x.From, x.To) },
		api.EvMend:    func(x api.Event) api.Errno { return c.air.Mend(x.From, x.To) },
		api.EvCrash:   c.crash,
		api.EvArm:     c.arm,
		api.EvStart:   c.start,
		api.EvCall:    c.call,
		api.EvAdd:     c.change,
		api.EvRemove:  c.change,
		api.EvPacket:  c.packet,
		api.EvPump:    c.pump,
		api.EvWant:    c.want,
		api.EvReport:  c.report,
	}
	if x.Kind < 0 || int(x.Kind) >= len(do) {
		return api.ErrArg
	}
	return do[x.Kind](x)
}

// tick lets ticks go by.
func (c *Cluster) tick(x api.Event) api.Errno {
	if !within(x.Ticks, 0, mostStep) || x.Ticks > api.MaxTick-c.ticks {
		return api.ErrArg
	}
	c.ticks += x.Ticks
	for k, address := range c.order {
		wish := mille * x.Ticks
		if k < len(x.Wishes) {
			wish = x.Wishes[k]
		}
		c.nodes[address].clock.Step(x.Ticks, wish)
	}
	for _, address := range c.order {
		if n := c.nodes[address]; n.control != nil {
			l, _ := n.control.Tick(n.clock.Now())
			c.out(n, l)
		}
	}
	return api.OK
}

// out sends what a controller sends; where the air is full it is lost, as messages are.
func (c *Cluster) out(n *node, l []api.Message) {
	for _, m := range l {
		c.air.Send(m)
	}
	c.story.look(n.control, c.ticks)
}

// deliver brings a message to whom it is for.
func (c *Cluster) deliver(x api.Event) api.Errno {
	m, through, e := c.air.Deliver(x.K)
	if e != api.OK || !through {
		return e
	}
	n := c.nodes[m.To]
	switch {
	case n == nil:
		c.answered(m)
	case n.control != nil:
		l, _ := n.control.Hear(m, n.clock.Now())
		c.out(n, l)
	case n.agent != nil && m.Kind == api.MsgLeaseTell:
		if y, a, e := control.Answer(m); e == api.OK && y.Kind == api.CmdGrant {
			n.agent.Told(y.Epoch, y.Number, a, n.clock.Now())
		}
	}
	return api.OK
}

// answered is for a message to a client: it may be the answer of its call.
func (c *Cluster) answered(m api.Message) {
	k := m.To - api.Clients
	x, a, e := control.Answer(m)
	if m.Kind != api.MsgAnswer || !within(k, 1, api.MaxClients) || e != api.OK || !isCall(x.Kind) {
		return
	}
	w := &c.clients[k]
	if !w.under || x.Client != k || x.Number != w.number || isPassing(a.E) {
		return
	}
	w.under = false
	c.calls[w.call].To, c.calls[w.call].Answer = c.event, a
}

// crash crashes a node; what is under way to it is gone.
func (c *Cluster) crash(x api.Event) api.Errno {
	n := c.nodes[x.Node]
	if n == nil {
		return api.ErrArg
	}
	n.crash(x.Plan)
	c.air.Clear(x.Node)
	return api.OK
}

// arm arms a node's disk.
func (c *Cluster) arm(x api.Event) api.Errno {
	n := c.nodes[x.Node]
	if n == nil {
		return api.ErrArg
	}
	return n.disk.Arm(x.K, x.Plan)
}

// start starts a node.
func (c *Cluster) start(x api.Event) api.Errno {
	n := c.nodes[x.Node]
	switch {
	case n == nil:
		return api.ErrArg
	case n.up():
		return api.ErrTwice
	}
	n.start(c.plan)
	return api.OK
}

// call lets a client call a node.
func (c *Cluster) call(x api.Event) api.Errno {
	y := x.Command
	if !isCall(y.Kind) || !within(y.Client, 1, api.MaxClients) || y.Number < 1 || c.nodes[x.Node] == nil {
		return api.ErrArg
	}
	w := &c.clients[y.Client]
	switch {
	case w.under && y.Number == w.number:
		y = c.calls[w.call].Command
	case !w.under && y.Number > w.number:
		y.Leases = nil
		*w = client{y.Number, true, len(c.calls)}
		c.calls = append(c.calls, api.Call{Command: y, From: c.event})
	default:
		return api.ErrBusy
	}
	c.ask(api.MsgCall, api.Clients+y.Client, x.Node, y)
	return api.OK
}

// change lets client 1 ask for a change of the servers.
func (c *Cluster) change(x api.Event) api.Errno {
	if c.nodes[x.Node] == nil {
		return api.ErrArg
	}
	y := api.Command{Kind: api.CmdAdd, Size: x.K}
	if x.Kind == api.EvRemove {
		y.Kind = api.CmdRemove
	}
	c.ask(api.MsgCall, api.Clients+1, x.Node, y)
	return api.OK
}

// packet lets a packet come in at a shaper.
func (c *Cluster) packet(x api.Event) api.Errno {
	n, e := c.shaperAt(x.Node)
	if e != api.OK {
		return e
	}
	if _, e := n.shaper.In(x.B); e != api.OK {
		return e
	}
	c.record.in = append(c.record.in, slices.Clone(x.B))
	c.record.where = append(c.record.where, x.Node)
	return api.OK
}

// pump lets packets out of a shaper, by the tokens of its leases.
func (c *Cluster) pump(x api.Event) api.Errno {
	n, e := c.shaperAt(x.Node)
	if e != api.OK {
		return e
	}
	now := n.clock.Now()
	for tenant := 1; tenant <= api.MaxTenants; tenant++ {
		if has(c.plan.Flows, tenant) {
			n.shaper.Drop(tenant)
			n.shaper.Fill(tenant, min(n.agent.Tokens(tenant, now), api.MaxBurst))
		}
	}
	sent, bytes := n.shaper.Pump(x.K)
	for _, y := range sent {
		n.agent.Spend(y.Tenant, y.Size, now)
		y.Tick, y.Shaper = c.ticks, x.Node
		c.record.sent = append(c.record.sent, y)
	}
	c.record.bytes = append(c.record.bytes, bytes...)
	return api.OK
}

// want lets a shaper ask a controller for tokens.
func (c *Cluster) want(x api.Event) api.Errno {
	n, e := c.shaperTo(x)
	if e != api.OK {
		return e
	}
	y, under := n.agent.Again()
	if !under {
		tenant, bytes := n.wants(c.plan.Flows)
		if tenant == 0 {
			return api.OK
		}
		if y, e = n.agent.Ask(tenant, min(bytes, c.plan.Most), n.clock.Now()); e != api.OK {
			return e
		}
		n.asked = tenant
	}
	c.ask(api.MsgLeaseAsk, n.address, x.To, y)
	return api.OK
}

// report lets a shaper report to a controller.
func (c *Cluster) report(x api.Event) api.Errno {
	n, e := c.shaperTo(x)
	if e != api.OK {
		return e
	}
	for _, y := range n.agent.Reports(n.clock.Now()) {
		c.ask(api.MsgLeaseAsk, n.address, x.To, y)
	}
	return api.OK
}

// shaperAt is the shaper of a number, if it is up.
func (c *Cluster) shaperAt(k int) (*node, api.Errno) {
	if !c.isShaper(k) {
		return nil, api.ErrArg
	}
	n := c.nodes[api.Shapers+k]
	if !n.up() {
		return nil, api.ErrDown
	}
	return n, api.OK
}

// shaperTo is the shaper that is to send something to a controller.
func (c *Cluster) shaperTo(x api.Event) (*node, api.Errno) {
	if c.isShaper(x.Node) && !c.isController(x.To) {
		return nil, api.ErrArg
	}
	return c.shaperAt(x.Node)
}

// ask sends a command.
func (c *Cluster) ask(kind int8, from, to int, y api.Command) {
	c.air.Send(api.Message{Kind: kind, From: from, To: to, Data: wire.Command(y)})
}

// isCall: is it a kind of command that clients call?
func isCall(kind int8) bool { return api.CmdPut <= kind && kind <= api.CmdDelete }

// isPassing: is it an error that leaves a call under way?
func isPassing(e api.Errno) bool {
	switch e {
	case api.ErrLeader, api.ErrBusy, api.ErrLong, api.ErrFull:
		return true
	}
	return false
}
