package cluster

import (
	"slices"

	"weir/agent"
	"weir/api"
	"weir/clock"
	"weir/control"
	"weir/disk"
	"weir/hard"
	"weir/shaper"
)

// nameBoot is the file in which a shaper counts how often it began.
const nameBoot = "boot"

// node is a controller or a shaper: its disk and its clock, and, while it is up, what it has in memory.
type node struct {
	address int
	disk    *disk.Disk
	clock   *clock.Clock
	memory
}

// memory is what a crash takes: a controller, or a shaper with its leases, and for which tenant it asked last.
type memory struct {
	control *control.Control
	agent   *agent.Agent
	shaper  *shaper.Shaper
	asked   int
}

// fresh is a node that is down.
func fresh(address, rho int) (*node, api.Errno) {
	t, e := clock.New(rho)
	if e != api.OK {
		return nil, e
	}
	return &node{address: address, disk: disk.New(), clock: t}, api.OK
}

// up: is it up?
func (n *node) up() bool { return n.control != nil || n.shaper != nil }

// start starts a node that is down; where something is refused it stays so.
func (n *node) start(p api.Plan) {
	n.disk.Open() // of a disk that is up it is refused, which does not matter
	if n.address > api.Shapers {
		n.startShaper(p)
		return
	}
	setup := api.Setup{Self: n.address, Set: p.Set, Elect: mille * p.Elect, Beat: mille * p.Beat, Draws: turned(p.Draws, n.address)}
	rules := api.Rules{Lease: p.Lease, Least: p.Least, Most: p.Most, Rho: p.Rho}
	if x, e := control.Open(n.disk, setup, rules, n.clock.Now()); e == api.OK {
		n.memory = memory{control: x}
	}
}

// startShaper starts a shaper: its epoch is how often it began.
func (n *node) startShaper(p api.Plan) {
	h, e := hard.Open(n.disk, nameBoot)
	if e != api.OK {
		return
	}
	epoch, e := h.Boot()
	if e != api.OK {
		return
	}
	a, e := agent.New(n.address-api.Shapers, epoch, p.Lease)
	if e != api.OK {
		return
	}
	if s, e := shaper.New(p.Flows); e == api.OK {
		n.memory = memory{agent: a, shaper: s}
	}
}

// crash crashes a node's disk, and takes what it had in memory.
func (n *node) crash(plan []api.Piece) {
	n.disk.Crash(plan)
	n.memory = memory{}
}

// wants is for which tenant a shaper is to ask next, and for how many bytes; 0, if none wants some.
func (n *node) wants(flows []api.Flow) (tenant, bytes int) {
	for k := range api.MaxTenants {
		tenant := (n.asked+k)%api.MaxTenants + 1
		if lacks := n.shaper.Wants(tenant) - n.agent.Tokens(tenant, n.clock.Now()); lacks > 0 && has(flows, tenant) {
			return tenant, lacks
		}
	}
	return 0, 0
}

// has: has a tenant a flow?
func has(flows []api.Flow, tenant int) bool {
	return slices.ContainsFunc(flows, func(f api.Flow) bool { return f.Tenant == tenant })
}

// turned is draws, turned by some places.
func turned(draws []int, by int) []int {
	var l []int
	for k := range draws {
		l = append(l, draws[(k+by)%len(draws)])
	}
	return l
}
