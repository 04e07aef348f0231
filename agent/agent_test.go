package agent_test

import (
	"math"
	"math/rand"
	"reflect"
	"slices"
	"testing"

	"weir/agent"
	"weir/api"
)

func fresh(t *testing.T) *agent.Agent {
	t.Helper()
	a, e := agent.New(3, 2, 10)
	if e != api.OK {
		t.Fatal(e)
	}
	return a
}

// lend gives an agent a lease: asked at a reading, told at it.
func lend(t *testing.T, a *agent.Agent, lease, tenant, size, now int) {
	t.Helper()
	c, e := a.Ask(tenant, size, now)
	if e != api.OK {
		t.Fatal(e)
	}
	if e := a.Told(c.Epoch, c.Number, api.Answer{Lease: lease, Size: size}, now); e != api.OK {
		t.Fatal(e)
	}
}

func ok(lease, size int) api.Answer { return api.Answer{Lease: lease, Size: size} }

// holds fails unless these are held: lease, tenant, left, until.
func holds(t *testing.T, a *agent.Agent, now int, want ...api.Held) {
	t.Helper()
	if got := a.Held(now); !slices.Equal(got, want) {
		t.Errorf("at %d: %v; want %v", now, got, want)
	}
}

func report(lease, spent int, closed bool) api.Command {
	return api.Command{Kind: api.CmdReport, Shaper: 3, Epoch: 2, Lease: lease, Spent: spent, Closed: closed}
}

func reports(t *testing.T, got []api.Command, want ...api.Command) {
	t.Helper()
	if len(got)+len(want) > 0 && !reflect.DeepEqual(got, want) {
		t.Errorf("%v; want %v", got, want)
	}
}

func TestNew(t *testing.T) { // P22.1
	for _, x := range [][3]int{{0, 1, 1}, {9, 1, 1}, {1, 0, 1}, {1, 1, 0}, {1, 1, 1<<30 + 1}, {-1, -1, -1}} {
		if a, e := agent.New(x[0], x[1], x[2]); a != nil || e != api.ErrArg {
			t.Error(x, e)
		}
	}
	if a, e := agent.New(8, math.MaxInt, 1<<30); a == nil || e != api.OK {
		t.Error(e)
	}
}

func TestNil(t *testing.T) {
	var a *agent.Agent
	_, ask := a.Ask(0, 0, -1)
	c, is := a.Again()
	if ask != api.ErrNil || is || c.Kind != 0 || a.GiveUp() != api.ErrNil || a.Told(0, 0, api.Answer{}, 0) != api.ErrNil || a.Tokens(1, 0) != 0 || a.Spend(1, -1, 0) != api.ErrNil || a.Reports(0) != nil || a.Close(1, 0) != nil || a.Held(0) != nil {
		t.Error("nil")
	}
}

func TestAsk(t *testing.T) { // P22.1
	a := fresh(t)
	if c, is := a.Again(); is || c.Kind != 0 || a.GiveUp() != api.ErrNone {
		t.Error("nothing under way")
	}
	for _, x := range [][3]int{{0, 1, 1}, {17, 1, 1}, {1, 0, 1}, {1, api.MaxBurst + 1, 1}, {1, 1, -1}, {1, -1, 1}} {
		if c, e := a.Ask(x[0], x[1], x[2]); e != api.ErrArg || c.Kind != 0 {
			t.Error(x, e)
		}
	}
	c, e := a.Ask(16, api.MaxBurst, 1000)
	want := api.Command{Kind: api.CmdGrant, Shaper: 3, Epoch: 2, Number: 1, Tenant: 16, Size: api.MaxBurst}
	if e != api.OK || !reflect.DeepEqual(c, want) {
		t.Error(c, e)
	}
	if c, is := a.Again(); !is || !reflect.DeepEqual(c, want) {
		t.Error(c, is)
	}
	if _, e := a.Ask(1, 1, 1000); e != api.ErrBusy {
		t.Error(e)
	}
	if _, e := a.Ask(0, 1, 1000); e != api.ErrArg {
		t.Error("wrong is told ahead of busy", e)
	}
	if a.GiveUp() != api.OK || a.GiveUp() != api.ErrNone || a.Told(2, 1, ok(1, 5), 1000) != api.ErrStale {
		t.Error("give up")
	}
	if c, _ := a.Ask(1, 5, 0); c.Number != 2 {
		t.Error(c.Number)
	}
	if e := a.Told(2, 2, ok(1, 5), 0); e != api.OK { // the clock never falls: it was sent at 1000
		t.Error(e)
	}
	holds(t, a, 0, api.Held{Lease: 1, Tenant: 1, Left: 5, Until: 11000})
	if _, e := a.Ask(1, 1, 1<<50+1); e != api.ErrArg {
		t.Error(e)
	}
	if _, e := a.Ask(1, 1, 1<<50); e != api.OK {
		t.Error(e)
	}
}

func TestTold(t *testing.T) { // P22.2
	a := fresh(t)
	if a.Told(2, 0, ok(1, 1), 0) != api.ErrStale {
		t.Error("none under way")
	}
	lend(t, a, 7, 1, 50, 500)
	for n, x := range []struct {
		answer api.Answer
		now    int
		want   api.Errno
	}{
		{api.Answer{E: api.ErrPoor, Lease: 8, Size: 5}, 1000, api.ErrPoor}, {api.Answer{E: 77}, 1000, 77}, {api.Answer{E: -1}, 1000, -1}, {ok(0, 5), 1000, api.ErrArg}, {ok(-1, 5), 1000, api.ErrArg}, {ok(7, 5), 1000, api.ErrArg}, {ok(8, 0), 1000, api.ErrArg}, {ok(8, 21), 1000, api.ErrArg}, {ok(8, 20), 11000, api.ErrNone}, {ok(8, 20), math.MaxInt, api.ErrNone},
	} {
		a := fresh(t)
		lend(t, a, 7, 1, 50, 500)
		a.Ask(1, 20, 1000)
		if a.Told(1, 2, ok(8, 5), 1000) != api.ErrStale || a.Told(2, 1, ok(8, 5), 1000) != api.ErrStale || a.Told(2, 3, ok(8, 5), 1000) != api.ErrStale {
			t.Error(n, "stale")
		}
		if e := a.Told(2, 2, x.answer, x.now); e != x.want {
			t.Error(n, e)
		}
		if e := a.Told(2, 2, ok(8, 5), 1000); e != api.ErrStale {
			t.Error(n, "it is over", e)
		}
	}
	a.Ask(4, 20, 1000)
	if e := a.Told(2, 2, ok(8, 20), 10999); e != api.ErrArg && e != api.OK {
		t.Error(e)
	}
	holds(t, a, 10999, api.Held{Lease: 8, Tenant: 4, Left: 20, Until: 11000})
	a = fresh(t)
	for k := range api.MaxLeases {
		lend(t, a, k+1, 1, 5, 0)
	}
	a.Ask(1, 5, 0)
	if e := a.Told(2, 65, ok(1, 5), 0); e != api.ErrArg {
		t.Error(e)
	}
	a.Ask(1, 5, 0)
	if e := a.Told(2, 66, ok(99, 5), 0); e != api.ErrFull {
		t.Error(e)
	}
	a.Ask(1, 5, 1)
	if e := a.Told(2, 67, ok(99, 5), 10000); e != api.OK { // the others are dropped first
		t.Error(e)
	}
	holds(t, a, 10000, api.Held{Lease: 99, Tenant: 1, Left: 5, Until: 10001})
}

func TestSpend(t *testing.T) { // P22.3
	a := fresh(t)
	a.Ask(1, 50, 1000)
	a.Told(2, 1, ok(9, 50), 4000)
	if a.Tokens(1, 10999) != 50 || a.Tokens(2, 10999) != 0 || a.Tokens(1, 11000) != 0 || a.Tokens(1, 0) != 0 {
		t.Error("tokens")
	}
	a = fresh(t)
	lend(t, a, 5, 1, 10, 2000)
	lend(t, a, 4, 2, 10, 2000)
	lend(t, a, 3, 1, 10, 2000)
	lend(t, a, 2, 1, 10, 3000)
	if a.Spend(1, -1, 3000) != api.ErrArg || a.Spend(1, 31, 3000) != api.ErrPoor || a.Spend(9, 1, 3000) != api.ErrPoor || a.Spend(1, 0, 3000) != api.OK || a.Spend(9, 0, 3000) != api.OK || a.Spend(1, math.MaxInt, 3000) != api.ErrPoor {
		t.Error("errors")
	}
	if a.Spend(1, 14, 3000) != api.OK || a.Tokens(1, 3000) != 16 {
		t.Error("spend")
	}
	holds(t, a, 3000, api.Held{Lease: 5, Tenant: 1, Left: 0, Until: 12000}, api.Held{Lease: 4, Tenant: 2, Left: 10, Until: 12000}, api.Held{Lease: 3, Tenant: 1, Left: 6, Until: 12000}, api.Held{Lease: 2, Tenant: 1, Left: 10, Until: 13000})
	if a.Spend(1, 16, 12000) != api.ErrPoor || a.Spend(1, 10, 12000) != api.OK {
		t.Error("dropped first")
	}
	holds(t, a, 12000, api.Held{Lease: 2, Tenant: 1, Left: 0, Until: 13000})
	a.Held(12000)[0].Lease = 77
	holds(t, a, 12000, api.Held{Lease: 2, Tenant: 1, Left: 0, Until: 13000})
}

func TestUntilOrder(t *testing.T) { // P22.3
	a := fresh(t)
	c, _ := a.Ask(1, 10, 5000)
	a.Told(c.Epoch, c.Number, ok(1, 10), 5000)
	lend(t, a, 2, 1, 10, 6000)
	a.Spend(1, 3, 6000)
	holds(t, a, 6000, api.Held{Lease: 1, Tenant: 1, Left: 7, Until: 15000}, api.Held{Lease: 2, Tenant: 1, Left: 10, Until: 16000})
}

func TestReports(t *testing.T) { // P22.4
	a := fresh(t)
	lend(t, a, 5, 1, 10, 2000)
	lend(t, a, 4, 2, 10, 2000)
	lend(t, a, 3, 1, 10, 3000)
	a.Spend(1, 4, 3000)
	reports(t, a.Reports(3000), report(5, 4, false))
	reports(t, a.Reports(3000))
	a.Spend(1, 8, 3000)
	a.Spend(2, 1, 3000)
	reports(t, a.Reports(3000), report(5, 10, false), report(4, 1, false), report(3, 2, false))
	holds(t, a, 3000, api.Held{Lease: 4, Tenant: 2, Left: 9, Until: 12000}, api.Held{Lease: 3, Tenant: 1, Left: 8, Until: 13000})
	reports(t, a.Close(2, 3000), report(4, 1, true))
	reports(t, a.Close(2, 3000))
	a.Spend(1, 1, 3000)
	reports(t, a.Close(1, 3000), report(3, 3, true))
	holds(t, a, 3000)
	lend(t, a, 6, 1, 10, 3000)
	a.Spend(1, 10, 3000)
	lend(t, a, 7, 1, 10, 4000)
	reports(t, a.Close(1, 4000), report(6, 10, true), report(7, 0, true))
	lend(t, a, 8, 1, 10, 4000)
	a.Spend(1, 1, 4000)
	reports(t, a.Reports(14000))
	reports(t, a.Close(1, 14000))
	b := fresh(t)
	lend(t, b, 8, 1, 10, 4000)
	b.Spend(1, 1, 4000)
	reports(t, b.Close(1, 14000)) // what is not alive is dropped first, and not reported
}

// TestInTime spends at random, and holds it against what was leased and till when.
func TestInTime(t *testing.T) { // P22.5, P22.6
	r := rand.New(rand.NewSource(1))
	for range 100 {
		a := fresh(t)
		now, id := 0, 0
		until, size, spent, told := map[int]int{}, map[int]int{}, map[int]int{}, map[int]int{}
		sent := 0
		for range 300 {
			now += r.Intn(1500)
			switch r.Intn(5) {
			case 0:
				if _, e := a.Ask(1+r.Intn(2), 1+r.Intn(30), now); e == api.OK {
					sent = now
				}
			case 1:
				if c, is := a.Again(); is {
					id++
					n := 1 + r.Intn(c.Size)
					if e := a.Told(c.Epoch, c.Number, ok(id, n), now); e == api.OK {
						until[id], size[id] = sent+10000, n
					} else if e != api.ErrNone || now < sent+10000 {
						t.Fatal(e)
					}
				}
			case 2, 3:
				before := a.Held(now)
				n := r.Intn(25)
				tenant := 1 + r.Intn(2)
				tokens := a.Tokens(tenant, now)
				if e := a.Spend(tenant, n, now); (e == api.OK) != (n <= tokens) {
					t.Fatal(e)
				} else if e == api.OK {
					after := a.Held(now)
					sum := 0
					for k := range before {
						d := before[k].Left - after[k].Left
						sum += d
						spent[before[k].Lease] += d
						if d > 0 && now >= until[before[k].Lease] || spent[before[k].Lease] > size[before[k].Lease] {
							t.Fatal("spent", before[k], after[k])
						}
					}
					if sum != n {
						t.Fatal(sum, n)
					}
				}
			default:
				for _, c := range a.Reports(now) {
					if c.Spent != spent[c.Lease] || c.Spent <= told[c.Lease] {
						t.Fatal(c, spent[c.Lease])
					}
					told[c.Lease] = c.Spent
				}
			}
		}
	}
}

func TestRestart(t *testing.T) { // P22.7
	a, _ := agent.New(3, 2, 10)
	a.Ask(1, 10, 1000)
	b, _ := agent.New(3, 3, 10)
	if b.Told(2, 1, ok(1, 5), 1000) != api.ErrStale {
		t.Error("none under way")
	}
	b.Ask(1, 10, 1000)
	if b.Told(2, 1, ok(1, 5), 1000) != api.ErrStale || b.Told(3, 1, ok(1, 5), 1000) != api.OK {
		t.Error("an older epoch")
	}
}
