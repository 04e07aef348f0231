package control_test

import (
	"math"
	"reflect"
	"slices"
	"testing"

	"weir/api"
	"weir/clock"
	"weir/control"
	"weir/disk"
	"weir/state"
	"weir/wire"
)

const (
	elect = 1000
	beat  = 100
)

var rules = api.Rules{Lease: 10, Least: 5, Most: 50, Rho: 0}

func setup(self int, set uint8) api.Setup {
	return api.Setup{Self: self, Set: set, Elect: elect, Beat: beat}
}

func open(t *testing.T, d *disk.Disk, self int, set uint8) *control.Control {
	t.Helper()
	c, e := control.Open(d, setup(self, set), rules, 0)
	if e != api.OK {
		t.Fatal(e)
	}
	return c
}

// alone is controller 1, alone in its set, that came to lead at elect.
func alone(t *testing.T, d *disk.Disk) *control.Control {
	t.Helper()
	c := open(t, d, 1, 1)
	if l, e := c.Tick(elect); len(l) != 0 || e != api.OK || !c.Leads() {
		t.Fatal(l, e)
	}
	return c
}

func call(from int, x api.Command) api.Message {
	return api.Message{Kind: api.MsgCall, From: from, To: 1, Data: wire.Command(x)}
}

func lease(from int, x api.Command) api.Message {
	return api.Message{Kind: api.MsgLeaseAsk, From: from, To: 1, Data: wire.Command(x)}
}

func put(number, tenant, rate, burst int) api.Command {
	return api.Command{Kind: api.CmdPut, Client: 1, Number: number, Tenant: tenant, Rate: rate, Burst: burst}
}

func grant(shaper, number, size int) api.Command {
	return api.Command{Kind: api.CmdGrant, Shaper: shaper, Epoch: 1, Number: number, Tenant: 1, Size: size}
}

// hears fails unless a controller answers a message with just this.
func hears(t *testing.T, c *control.Control, m api.Message, now int, x api.Command, a api.Answer) {
	t.Helper()
	l, e := c.Hear(m, now)
	if e != api.OK || len(l) != 1 {
		t.Fatalf("%v %v", l, e)
	}
	kind := api.MsgAnswer
	if x.Kind == api.CmdGrant {
		kind = api.MsgLeaseTell
	}
	y, b, e := control.Answer(l[0])
	if e != api.OK || l[0].Kind != kind || l[0].From != 1 || l[0].To != m.From || !reflect.DeepEqual(x, y) || a != b {
		t.Errorf("%v: %v %v; want %v %v", l[0], y, b, x, a)
	}
}

// silent fails if a message is answered.
func silent(t *testing.T, c *control.Control, m api.Message, now int) {
	t.Helper()
	if l, e := c.Hear(m, now); e != api.OK || len(l) != 0 {
		t.Errorf("%v %v", l, e)
	}
}

func errs(e api.Errno) api.Answer { return api.Answer{E: e} }

func TestOpen(t *testing.T) { // P28.1, P28.2
	for n, x := range [][4]int{{0, 5, 5, 0}, {1<<30 + 1, 5, 5, 0}, {10, 0, 5, 0}, {10, api.MaxBurst + 1, 5, 0}, {10, 5, 0, 0}, {10, 5, api.MaxBurst + 1, 0}, {10, 5, 5, -1}, {10, 5, 5, 201}} {
		r := api.Rules{Lease: x[0], Least: x[1], Most: x[2], Rho: x[3]}
		if c, e := control.Open(disk.New(), setup(1, 1), r, 0); c != nil || e != api.ErrArg {
			t.Error(n, e)
		}
	}
	if _, e := control.Open(disk.New(), setup(1, 1), api.Rules{Lease: 1 << 30, Least: api.MaxBurst, Most: 1, Rho: 200}, 0); e != api.OK {
		t.Error(e)
	}
	if _, e := control.Open(disk.New(), setup(1, 1), api.Rules{Lease: 1, Least: 1, Most: api.MaxBurst}, 0); e != api.OK {
		t.Error(e)
	}
	if _, e := control.Open(disk.New(), setup(0, 1), rules, 0); e != api.ErrArg {
		t.Error(e)
	}
	d := disk.New()
	d.Crash(nil)
	if _, e := control.Open(d, setup(1, 1), rules, 0); e != api.ErrDown {
		t.Error(e)
	}
	c := open(t, disk.New(), 1, 7)
	if first, l := c.Took(); first != 0 || len(l) != 0 || c.Applied() != 0 || c.Leads() || c.Commit() != 0 || c.Down() || !state.Same(c.State(), state.New()) {
		t.Error("fresh")
	}
	for _, c := range []*control.Control{nil, {}} {
		_, a := c.Hear(api.Message{}, 0)
		_, b := c.Tick(0)
		first, l := c.Took()
		if a != api.ErrNil || b != api.ErrNil || first != 0 || l != nil || c.Applied() != 0 || c.Leads() || c.Commit() != 0 || c.Down() || c.State().Next != 0 || c.Rows().Base != 0 {
			t.Error("nil")
		}
	}
}

func TestAnswer(t *testing.T) { // P28.1
	c := alone(t, disk.New())
	l, _ := c.Hear(call(201, put(1, 1, 1000, 100)), elect)
	m := l[0]
	if x, a, e := control.Answer(m); e != api.OK || !reflect.DeepEqual(x, put(1, 1, 1000, 100)) || a != (api.Answer{Rate: 1000, Burst: 100}) {
		t.Error(x, a, e)
	}
	var bad []api.Message
	for k := range m.Data {
		x := m
		x.Data = m.Data[:k]
		bad = append(bad, x)
	}
	for _, change := range []func(*api.Message){
		func(x *api.Message) { x.Kind = api.MsgCall }, func(x *api.Message) { x.Kind = 0 }, func(x *api.Message) { x.Data = append(x.Data, 0) }, func(x *api.Message) { x.Data[0] = 255 }, func(x *api.Message) { x.Data[7]++ }, func(x *api.Message) { x.Data[7]-- }, func(x *api.Message) { x.Data[8+81] = 2 },
	} {
		x := m
		x.Data = slices.Clone(m.Data)
		change(&x)
		bad = append(bad, x)
	}
	for n, x := range bad {
		if y, a, e := control.Answer(x); e != api.ErrArg || y.Kind != 0 || a != (api.Answer{}) {
			t.Error(n, e)
		}
	}
	m.Kind = api.MsgLeaseTell
	if _, _, e := control.Answer(m); e != api.OK {
		t.Error(e)
	}
}

func TestCalls(t *testing.T) { // P28.2, P28.4
	d := disk.New()
	c := alone(t, d)
	p := put(1, 1, 1000, 100)
	hears(t, c, call(201, p), elect, p, api.Answer{Rate: 1000, Burst: 100})
	if first, l := c.Took(); first != 2 || len(l) != 1 || c.Applied() != 2 || c.Commit() != 2 || l[0].Kind != api.EntryCommand {
		t.Error(first, l)
	}
	hears(t, c, call(5, p), elect, p, api.Answer{Rate: 1000, Burst: 100}) // asked again, by another address
	if len(c.State().Tenants) != 1 || c.State().Tenants[0].Bucket != 0 {
		t.Error(c.State())
	}
	g := api.Command{Kind: api.CmdGet, Client: 1, Number: 2, Tenant: 2}
	hears(t, c, call(201, g), elect, g, errs(api.ErrTenant))
	x := api.Command{Kind: api.CmdDelete, Client: 1, Number: 3, Tenant: 1}
	hears(t, c, call(255, x), elect, x, api.Answer{})
	x = api.Command{Kind: api.CmdGet, Client: 1, Number: 1}
	hears(t, c, call(1, x), elect, x, errs(api.ErrStale))
	for _, from := range []int{0, 256, -1, math.MaxInt} {
		silent(t, c, call(from, p), elect)
	}
	for _, kind := range []int8{0, api.CmdReport, api.CmdExpire, 7, 99, 102, -1} {
		x := api.Command{Kind: kind, Client: 1, Number: 9}
		hears(t, c, call(201, x), elect, x, errs(api.ErrArg))
	}
	y := grant(1, 1, 5)
	hears(t, c, call(101, y), elect, y, errs(api.ErrArg))
	applied := c.Applied()
	silent(t, c, api.Message{Kind: api.MsgCall, From: 201, To: 1, Data: []byte("none")}, elect)
	for _, kind := range []int8{0, api.MsgAnswer, api.MsgLeaseTell, 10, -1, 127, -128} {
		silent(t, c, api.Message{Kind: kind, From: 201, To: 1, Data: wire.Command(p)}, elect)
	}
	if c.Applied() != applied {
		t.Error("something was done")
	}
	if first, l := c.Took(); first != 0 || len(l) != 0 {
		t.Error("took")
	}
	if r := c.Rows(); len(r.Entries) != applied {
		t.Error(r)
	}
}

func TestFollower(t *testing.T) { // P28.2
	c := open(t, disk.New(), 1, 7)
	p := put(1, 1, 1000, 100)
	hears(t, c, call(201, p), 5, p, errs(api.ErrLeader))
	c.Hear(api.Message{Kind: api.MsgAppendAsk, From: 3, To: 1, Term: 1}, 6)
	hears(t, c, call(201, p), 7, p, api.Answer{E: api.ErrLeader, Lease: 3})
	x := api.Command{Kind: 77}
	hears(t, c, call(201, x), 7, x, api.Answer{E: api.ErrLeader, Lease: 3})
	y := grant(1, 1, 5)
	hears(t, c, lease(101, y), 7, y, api.Answer{E: api.ErrLeader, Lease: 3})
	hears(t, c, call(101, y), 7, y, api.Answer{E: api.ErrLeader, Lease: 3})
	silent(t, c, lease(101, api.Command{Kind: api.CmdReport, Shaper: 1, Epoch: 1, Lease: 1}), 7)
	silent(t, c, lease(101, p), 7)
	if l, e := c.Tick(elect + 6); e != api.OK || len(l) != 2 || l[0].Kind != api.MsgVoteAsk {
		t.Error(l, e)
	}
}

func TestSets(t *testing.T) { // P28.2
	c := alone(t, disk.New())
	ask := func(kind int8, node int) (api.Command, api.Message) {
		x := api.Command{Kind: kind, Client: 1, Number: 1, Size: node}
		return x, call(201, x)
	}
	for _, x := range []struct {
		kind int8
		node int
		want api.Errno
	}{{api.CmdAdd, 1, api.ErrTwice}, {api.CmdAdd, 0, api.ErrArg}, {api.CmdAdd, 8, api.ErrArg}, {api.CmdRemove, 1, api.ErrFull}, {api.CmdRemove, 2, api.ErrNone}, {api.CmdRemove, -1, api.ErrArg}} {
		y, m := ask(x.kind, x.node)
		hears(t, c, m, elect, y, errs(x.want))
	}
	x, m := ask(api.CmdAdd, 2)
	l, e := c.Hear(m, elect)
	if e != api.OK || len(l) != 1 || l[0].Kind != api.MsgAppendAsk || l[0].To != 2 {
		t.Error(l, e)
	}
	y, n := ask(api.CmdAdd, 3)
	hears(t, c, n, elect, y, errs(api.ErrBusy))
	l, e = c.Hear(api.Message{Kind: api.MsgAppendTell, From: 2, To: 1, Term: 1, Index: 2, Ok: true}, elect)
	if e != api.OK || len(l) != 1 {
		t.Fatal(l, e)
	}
	if z, a, e := control.Answer(l[0]); e != api.OK || !reflect.DeepEqual(z, x) || a != (api.Answer{}) || l[0].To != 201 {
		t.Error(z, a, e)
	}
	if first, took := c.Took(); first != 2 || len(took) != 1 || took[0].Set != 3 {
		t.Error(first, took)
	}
}

// rich is a controller alone with tenant 1, rate 1000, burst 100, a bucket of 100000 at the reading 200000.
func rich(t *testing.T, d *disk.Disk) *control.Control {
	t.Helper()
	c := alone(t, d)
	c.Hear(call(201, put(1, 1, 1000, 100)), elect)
	if _, e := c.Tick(200000); e != api.OK {
		t.Fatal(e)
	}
	if b, _ := state.Tokens(c.State(), 1); b != 100000 {
		t.Fatal(b)
	}
	return c
}

func TestGrants(t *testing.T) { // P28.2, P28.4
	c := rich(t, disk.New())
	x, y := grant(1, 1, 70), grant(1, 1, 50)
	first := api.Answer{Rate: 1000, Burst: 100, Lease: 1, Size: 50}
	hears(t, c, lease(101, x), 200000, y, first) // the greatest quantum
	b, out := state.Tokens(c.State(), 1)
	if b != 50000 || out != 50 {
		t.Error(b, out)
	}
	l, e := c.Hear(lease(101, x), 200000) // asked again: of the share there is now, but answered as it was
	if z, a, f := control.Answer(l[0]); e != api.OK || f != api.OK || a != first || z.Size != 50 {
		t.Error(z, a, e)
	}
	if b, out := state.Tokens(c.State(), 1); b != 50000 || out != 50 {
		t.Error(b, out)
	}
	hears(t, c, lease(102, grant(2, 1, 70)), 200000, grant(2, 1, 25), api.Answer{Rate: 1000, Burst: 100, Lease: 2, Size: 25}) // shaper 1 holds some
	hears(t, c, lease(103, grant(3, 1, 70)), 200000, grant(3, 1, 9), api.Answer{Rate: 1000, Burst: 100, Lease: 3, Size: 9})
	hears(t, c, lease(104, grant(4, 1, 70)), 200000, grant(4, 1, 70), errs(api.ErrPoor)) // 4 of 16 is less than the least quantum
	hears(t, c, lease(104, grant(4, 2, 3)), 200000, grant(4, 2, 3), api.Answer{Rate: 1000, Burst: 100, Lease: 4, Size: 3})
	if d := c.State().Desks; len(d) != 4 || d[3].Number != 2 {
		t.Error(d)
	}
	other := grant(5, 1, 5)
	other.Tenant = 9
	hears(t, c, lease(105, other), 200000, other, errs(api.ErrPoor))
	hears(t, c, lease(102, grant(2, 1, 70)), 200000, grant(2, 1, 0), api.Answer{Rate: 1000, Burst: 100, Lease: 2, Size: 25}) // nothing is left, but the desk has it
	silent(t, c, lease(0, grant(1, 2, 3)), 200000)
	silent(t, c, lease(101, put(2, 1, 5, 5)), 200000)
	silent(t, c, lease(101, api.Command{Kind: api.CmdExpire, Leases: []int{1}}), 200000)
	silent(t, c, api.Message{Kind: api.MsgLeaseAsk, From: 101, To: 1, Data: []byte{1}}, 200000)
	silent(t, c, lease(101, api.Command{Kind: api.CmdReport, Shaper: 1, Epoch: 1, Lease: 1, Spent: 20}), 200000)
	if s := c.State(); s.Leases[0].Spent != 20 {
		t.Error(s.Leases)
	}
	silent(t, c, lease(101, api.Command{Kind: api.CmdReport, Shaper: 9, Lease: 1}), 200000)
}

func TestBeatAndExpiry(t *testing.T) { // P28.2
	c := rich(t, disk.New())
	took := func(now, want int) []api.Entry {
		t.Helper()
		if l, e := c.Tick(now); e != api.OK || len(l) != 0 {
			t.Fatal(l, e)
		}
		_, l := c.Took()
		if len(l) != want {
			t.Fatal(now, l)
		}
		return l
	}
	took(200099, 0)
	l := took(200100, 1)
	if x, _, e := wire.ReadCommand(l[0].Data); e != api.OK || x.Kind != api.CmdExpire || len(x.Leases) != 0 || l[0].Stamp != (200100-elect)/1000 {
		t.Error(x, e, l[0].Stamp)
	}
	took(200199, 0)
	c.Hear(lease(101, grant(1, 1, 30)), 200150)
	lasts := clock.Over(rules.Lease, rules.Rho)
	took(200150+lasts-1, 1)
	if len(c.State().Leases) != 1 {
		t.Error("over too early")
	}
	took(200150+lasts, 0)
	l = took(200150+lasts+99, 1)
	if x, _, _ := wire.ReadCommand(l[0].Data); !slices.Equal(x.Leases, []int{1}) || len(c.State().Leases) != 0 {
		t.Error(x, c.State().Leases)
	}
	if b, out := state.Tokens(c.State(), 1); b < 70000 || out != 0 {
		t.Error(b, out)
	}
	took(199000, 0)
	if l, e := c.Hear(call(201, put(2, 1, 1000, 100)), 500); e != api.OK || len(l) != 1 { // a reading ahead of its beginning makes no tokens
		t.Error(l, e)
	}
	if _, l := c.Took(); l[0].Stamp != (200150+lasts+99-elect)/1000 {
		t.Error(l[0].Stamp)
	}
}

func TestNewLeaderWaits(t *testing.T) { // P28.2
	d := disk.New()
	c := rich(t, d)
	c.Hear(lease(101, grant(1, 1, 30)), 200000)
	d.Crash(nil)
	if _, e := c.Tick(300000); e != api.ErrDown || !c.Down() {
		t.Error(e)
	}
	if l, e := c.Hear(call(201, put(2, 1, 1, 1)), 300000); e != api.ErrDown || len(l) != 0 {
		t.Error(l, e)
	}
	d.Open()
	c, _ = control.Open(d, setup(1, 1), rules, 300000)
	if c.Leads() || len(c.State().Leases) != 0 {
		t.Error("nothing is applied yet")
	}
	c.Tick(300000 + elect)
	if first, l := c.Took(); first != 1 || len(l) != 5 || !c.Leads() || len(c.State().Leases) != 1 || c.State().Leases[0].Size != 30 {
		t.Error(first, len(l), c.State())
	}
	now := 300000 + elect
	lasts := clock.Over(rules.Lease, rules.Rho)
	c.Tick(now + lasts - 1)
	if len(c.State().Leases) != 1 {
		t.Error("over too early")
	}
	c.Tick(now + lasts - 1 + beat)
	if len(c.State().Leases) != 0 {
		t.Error("not over")
	}
}

func TestSnapshots(t *testing.T) { // P28.2
	d := disk.New()
	c := alone(t, d)
	for n := 1; n <= 62; n++ {
		c.Hear(call(201, put(n, 1, n, 100)), elect)
	}
	if c.Rows().Base != 0 || c.Applied() != 63 {
		t.Error(c.Rows().Base, c.Applied())
	}
	c.Hear(call(201, put(63, 1, 63, 100)), elect)
	if c.Rows().Base != 64 || c.Applied() != 64 || len(c.Rows().Entries) != 0 {
		t.Error(c.Rows().Base, c.Applied())
	}
	if first, l := c.Took(); first != 64 || len(l) != 1 {
		t.Error(first, l)
	}
	c.Hear(call(201, put(64, 2, 5, 5)), elect)
	was := c.State()
	d.Crash(nil)
	d.Open()
	c = open(t, d, 1, 1)
	if c.Applied() != 64 || len(c.State().Tenants) != 1 || c.State().Tenants[0].Rate != 63 || c.Rows().Base != 64 {
		t.Error(c.Applied(), c.State())
	}
	c.Tick(elect)
	if s := c.State(); c.Applied() != 66 || !reflect.DeepEqual(s.Tenants, was.Tenants) || !reflect.DeepEqual(s.Sessions, was.Sessions) {
		t.Error(c.Applied(), s)
	}
	// a follower takes it over, and a rotten one is none
	for n, data := range [][]byte{wire.State(was), []byte("rotten"), wire.State(api.State{Next: -1})} {
		f := open(t, disk.New(), 1, 7)
		want := state.New()
		if n == 0 {
			want = was
		}
		l, e := f.Hear(api.Message{Kind: api.MsgSnapAsk, From: 2, To: 1, Term: 3, Snap: api.Snapshot{Index: 70, Term: 2, Set: 7, Data: data}}, 5)
		if e != api.OK || len(l) != 1 || !l[0].Ok || f.Applied() != 70 || !state.Same(f.State(), want) || f.Commit() != 70 {
			t.Error(n, l, e, f.Applied(), f.State())
		}
	}
}

func TestComesDown(t *testing.T) { // P28.2
	d := disk.New()
	c := open(t, d, 1, 3)
	c.Tick(elect)
	c.Hear(api.Message{Kind: api.MsgVoteTell, From: 2, To: 1, Term: 1, Ok: true}, elect)
	d.Arm(0, nil)
	l, e := c.Tick(elect + beat) // the node's beat goes out, then the entry can't be kept
	if e != api.ErrDown || len(l) != 1 || l[0].Kind != api.MsgAppendAsk || !c.Down() {
		t.Error(l, e)
	}
	d = disk.New()
	c = alone(t, d)
	for n := 1; n <= 62; n++ {
		c.Hear(call(201, put(n, 1, n, 100)), elect)
	}
	d.Arm(2, nil) // the entry is kept and answered, the snapshot is not
	l, e = c.Hear(call(201, put(63, 1, 63, 100)), elect)
	if e != api.ErrDown || len(l) != 1 || l[0].Kind != api.MsgAnswer || !c.Down() {
		t.Error(l, e)
	}
	d = disk.New()
	c = alone(t, d)
	d.Arm(1, nil)
	if l, e := c.Hear(call(201, put(1, 1, 1, 1)), elect); e != api.ErrDown || len(l) != 0 {
		t.Error(l, e)
	}
	if first, l := c.Took(); first != 0 || len(l) != 0 {
		t.Error("took")
	}
}

func TestWaitsAreForgotten(t *testing.T) { // P28.2
	c := open(t, disk.New(), 1, 7)
	c.Tick(elect)
	c.Hear(api.Message{Kind: api.MsgVoteTell, From: 2, To: 1, Term: 1, Ok: true}, elect)
	l, _ := c.Hear(call(201, put(1, 1, 5, 5)), elect)
	for _, m := range l {
		if m.Kind != api.MsgAppendAsk {
			t.Error("answered ahead of its being committed", m)
		}
	}
	l, _ = c.Hear(api.Message{Kind: api.MsgAppendAsk, From: 2, To: 1, Term: 2, Index: 2, Last: 1, Commit: 2, Entries: []api.Entry{{Term: 2}}}, elect)
	if len(l) != 1 || l[0].Kind != api.MsgAppendTell {
		t.Error("answered by one that does not lead", l)
	}
	if c.Applied() != 2 || len(c.State().Tenants) != 1 {
		t.Error(c.Applied())
	}
	l, _ = c.Hear(api.Message{Kind: api.MsgAppendAsk, From: 2, To: 1, Term: 2, Index: 3, Last: 2, Commit: 3}, elect)
	for _, m := range l {
		if m.Kind != api.MsgAppendTell {
			t.Error("answered by one that does not lead", m)
		}
	}
}

// TestWaitsOfAnEarlierTerm: what waited in one term is not answered in another one, though its entry is committed then.
func TestWaitsOfAnEarlierTerm(t *testing.T) { // P28.2
	c := open(t, disk.New(), 1, 7)
	c.Tick(elect)
	vote := func(term int) {
		c.Hear(api.Message{Kind: api.MsgVoteTell, From: 2, To: 1, Term: term, Ok: true}, elect)
	}
	vote(1)
	c.Hear(call(201, put(1, 1, 5, 5)), elect)
	c.Hear(api.Message{Kind: api.MsgVoteAsk, From: 3, To: 1, Term: 2}, elect)
	if c.Leads() {
		t.Fatal("leads")
	}
	c.Tick(9 * elect)
	vote(3)
	if !c.Leads() || len(c.Rows().Entries) != 3 {
		t.Fatal("does not lead again")
	}
	l, _ := c.Hear(api.Message{Kind: api.MsgAppendTell, From: 2, To: 1, Term: 3, Index: 3, Ok: true}, 9*elect)
	if len(l) != 0 || c.Applied() != 3 || len(c.State().Tenants) != 1 {
		t.Error(l, c.Applied())
	}
}

// TestMadeAheadOfItsCommit: a lease is over by the reading at which its entry was made.
func TestMadeAheadOfItsCommit(t *testing.T) { // P28.2
	c := rich(t, disk.New())
	c.Hear(call(201, api.Command{Kind: api.CmdAdd, Size: 2}), 200000)
	told := func(index, now int) []api.Message {
		l, _ := c.Hear(api.Message{Kind: api.MsgAppendTell, From: 2, To: 1, Term: 1, Index: index, Ok: true}, now)
		return l
	}
	told(len(c.Rows().Entries), 200000)
	c.Hear(lease(101, grant(1, 1, 30)), 200050)
	if l := told(len(c.Rows().Entries), 205000); len(l) != 1 || l[0].Kind != api.MsgLeaseTell {
		t.Fatal(l)
	}
	now := 200050 + clock.Over(rules.Lease, rules.Rho)
	c.Tick(now)
	told(len(c.Rows().Entries), now)
	if len(c.State().Leases) != 0 {
		t.Error("not over")
	}
}

func TestWhoShares(t *testing.T) { // P28.2
	c := rich(t, disk.New())
	c.Hear(call(201, put(2, 2, 1000, 100)), 200000)
	c.Tick(400000)
	two := func(shaper, number, size int) api.Command {
		x := grant(shaper, number, size)
		x.Tenant = 2
		return x
	}
	c.Hear(lease(101, grant(1, 1, 30)), 400000)
	hears(t, c, lease(102, two(2, 1, 70)), 400000, two(2, 1, 50), api.Answer{Rate: 1000, Burst: 100, Lease: 2, Size: 50})
	hears(t, c, lease(102, two(2, 2, 70)), 400000, two(2, 2, 50), api.Answer{Rate: 1000, Burst: 100, Lease: 3, Size: 50})
	x := two(2, 2, 70)
	x.Epoch = 2
	hears(t, c, lease(102, x), 400000, x, errs(api.ErrPoor))
}

// TestOthersAreShapers: another shaper counts once, however many leases it holds.
func TestOthersAreShapers(t *testing.T) { // P28.2
	c := rich(t, disk.New())
	for n := 1; n <= 3; n++ {
		c.Hear(lease(108, grant(8, n, 10)), 200000)
	}
	hears(t, c, lease(101, grant(1, 1, 70)), 200000, grant(1, 1, 35), api.Answer{Rate: 1000, Burst: 100, Lease: 4, Size: 35})
}

// TestSnapshotsOfAnotherSet: snapshots go on behind a change of the servers.
func TestSnapshotsOfAnotherSet(t *testing.T) { // P28.2
	c := alone(t, disk.New())
	c.Hear(call(201, api.Command{Kind: api.CmdAdd, Size: 2}), elect)
	for n := 1; n <= 150; n++ {
		r := c.Rows()
		c.Hear(api.Message{Kind: api.MsgAppendTell, From: 2, To: 1, Term: 1, Index: r.Base + len(r.Entries), Ok: true}, elect)
		c.Hear(call(201, put(n, 1, n, 100)), elect)
	}
	if c.Rows().Base != 128 {
		t.Error(c.Rows().Base)
	}
}

func TestRefused(t *testing.T) { // P28.2
	c := alone(t, disk.New())
	x := put(1, 1, 5, 5)
	x.Leases = make([]int, 3000)
	hears(t, c, call(201, x), elect, x, errs(api.ErrArg))
	silent(t, c, lease(101, api.Command{Kind: api.CmdReport, Shaper: 1, Epoch: 1, Lease: 1, Leases: x.Leases}), elect)
}

func TestNothingShared(t *testing.T) {
	c := rich(t, disk.New())
	c.Hear(lease(101, grant(1, 1, 30)), 200000)
	s := c.State()
	_, l := c.Took()
	s.Tenants[0].Id, s.Leases[0].Id, s.Desks[0].Shaper, s.Sessions[0].Client = 9, 9, 9, 9
	l[0].Data[0] = 99
	_, again := c.Took()
	if is := c.State(); is.Tenants[0].Id != 1 || is.Leases[0].Id != 1 || is.Desks[0].Shaper != 1 || is.Sessions[0].Client != 1 || again[0].Data[0] == 99 {
		t.Error("shared")
	}
}
