package drive_test

import (
	"math"
	"math/rand"
	"reflect"
	"slices"
	"testing"

	"weir/api"
	"weir/drive"
	"weir/history"
	"weir/judge"
)

// plain is a course of three controllers, one shaper, one tenant: rate 10000 (10 bytes a tick), burst 200; 20 bytes a tick come in.
func plain() api.Course {
	return api.Course{
		Plan: api.Plan{Nodes: 7, Set: 7, Shapers: 1, Lease: 20, Least: 1, Most: 200, Rho: 100, Elect: 10, Beat: 2, Draws: []int{0, 3000, 6000},
			Flows: []api.Flow{{Tenant: 1, Weight: 1, Room: 20}}},
		Limits: []api.Limit{{At: 1, Tenant: 1, Rate: 10000, Burst: 200}},
		Loads:  []api.Load{{Shaper: 1, Tenant: 1, Bytes: 12, Every: 1}},
		Ticks:  120, Pump: 1000,
	}
}

func run(t *testing.T, c api.Course) api.Outcome {
	t.Helper()
	o, e := drive.Drive(c)
	if e != api.OK {
		t.Fatal(e)
	}
	return o
}

func TestMay(t *testing.T) { // P32.1
	for n, change := range []func(*api.Course){
		func(c *api.Course) { c.Limits = make([]api.Limit, 17) }, func(c *api.Course) { c.Loads = slices.Repeat(c.Loads, 17) }, func(c *api.Course) { c.Harms = make([]api.Harm, 17) }, func(c *api.Course) { c.Ticks = -1 }, func(c *api.Course) { c.Ticks = api.MaxCourse + 1 }, func(c *api.Course) { c.Pump = -1 }, func(c *api.Course) { c.Pump = 1<<20 + 1 },
		func(c *api.Course) { c.Loads[0].Every = 0 }, func(c *api.Course) { c.Loads[0].Every = api.MaxCourse + 1 }, func(c *api.Course) { c.Loads[0].Bytes = -1 }, func(c *api.Course) { c.Loads[0].Bytes = api.MaxPacket + 1 },
	} {
		c := plain()
		change(&c)
		if o, e := drive.Drive(c); drive.May(c) || e != api.ErrArg || !reflect.DeepEqual(o, api.Outcome{}) {
			t.Error(n, e)
		}
	}
	c := api.Course{Limits: make([]api.Limit, 16), Loads: slices.Repeat([]api.Load{{Every: api.MaxCourse, Bytes: api.MaxPacket, Shaper: 99, Tenant: -4}}, 16), Harms: make([]api.Harm, 16), Ticks: api.MaxCourse, Pump: 1 << 20}
	if !drive.May(c) || !drive.May(api.Course{}) {
		t.Error("may be")
	}
	if _, e := drive.Drive(c); e != api.ErrArg {
		t.Error("a plan that may not be", e)
	}
}

func TestDrive(t *testing.T) { // P32.1
	c := plain()
	o := run(t, c)
	if o.Tick != 120 || len(o.Sent) < 20 || len(o.In) < 50 || len(o.Calls) != 1 || o.Calls[0].To == 0 || len(o.Force) != 1 {
		t.Fatal(o.Tick, len(o.Sent), len(o.In), o.Calls, o.Force)
	}
	if y := o.Calls[0].Command; y.Client != 1 || y.Number != 1 || y.Tenant != 1 || y.Rate != 10000 || y.Burst != 200 || y.Kind != api.CmdPut {
		t.Error(y)
	}
	for k, b := range o.In {
		if len(b) != 20 || b[1] != 1 || b[2] != 0 || !slices.Equal(b[8:], make([]byte, 12)) || o.Where[k] != 1 {
			t.Error(b)
		}
	}
	out := judge.Out(o.Sent, 1, 60, 120)
	if out < 300 || out > 800 { // 10 bytes a tick, but for leases
		t.Error(out)
	}
	none := c
	none.Ticks = 0
	if o := run(t, none); o.Tick != 0 || len(o.In) != 0 {
		t.Error("no ticks")
	}
	none = c
	none.Pump = 0
	if o := run(t, none); len(o.Sent) != 0 || len(o.In) != 20 {
		t.Error("no link", len(o.Sent), len(o.In))
	}
	odd := c
	odd.Loads = []api.Load{{Shaper: 1, Tenant: 1, Bytes: 5, Every: 7}, {Shaper: 2, Tenant: 1, Every: 1}, {Shaper: 1, Tenant: 3, Every: 1}, {Shaper: 1, Tenant: 99, Every: 1}, {Shaper: 1, Tenant: 1, Bytes: 1500, Every: 1}, {Shaper: 1, Tenant: 1, Class: 256, Every: 1}}
	o = run(t, odd)
	if len(o.In) != 17 || len(o.In[0]) != 13 {
		t.Error("every seventh tick", len(o.In))
	}
}

func TestLimits(t *testing.T) { // P32.1
	c := plain()
	c.Limits = []api.Limit{{At: 50, Tenant: 1, Rate: 10000, Burst: 200}, {At: 3, Tenant: 2, Rate: -1, Burst: 7}, {At: 60, Tenant: 1, Rate: 0, Burst: 0}, {At: 999, Tenant: 3, Rate: 1, Burst: 1}}
	o := run(t, c)
	if len(o.Calls) != 3 || len(o.Force) != 2 {
		t.Fatal(o.Calls, o.Force)
	}
	for k, x := range o.Calls {
		if x.Command.Number != k+1 || x.Command.Tenant != c.Limits[k].Tenant || x.Command.Rate != c.Limits[k].Rate || x.To == 0 {
			t.Error(k, x)
		}
	}
	if o.Calls[1].Answer.E != api.ErrRate || o.Force[0].Tick != 50 || o.Force[1].Tick != 60 {
		t.Error(o.Calls, o.Force)
	}
	for _, x := range o.Sent {
		if x.Tick <= 50 || x.Tick > 85 {
			t.Error("out of its time", x)
		}
	}
}

func TestHarms(t *testing.T) { // P32.1
	c := plain()
	c.Harms = []api.Harm{{At: 60, Node: 101}, {At: 90, Node: 101, Up: true}, {At: 40, Node: 99}, {At: 0, Node: 101}, {At: 41, Node: 2, Up: true}}
	o := run(t, c)
	before, while, after := judge.Out(o.Sent, 1, 0, 59), judge.Out(o.Sent, 1, 59, 89), judge.Out(o.Sent, 1, 89, 120)
	if before == 0 || while != 0 || after == 0 {
		t.Error(before, while, after)
	}
	c.Harms = []api.Harm{{At: 50, Node: 1}, {At: 50, Node: 2}}
	o = run(t, c)
	if n := judge.Out(o.Sent, 1, 75, 120); n != 0 {
		t.Error("no majority, and tokens", n)
	}
	c.Harms = []api.Harm{{At: 50, Node: 1}, {At: 50, Node: 1, Up: true}, {At: 50, Node: 2}, {At: 55, Node: 2, Up: true}}
	o = run(t, c)
	if n := judge.Out(o.Sent, 1, 90, 120); n == 0 {
		t.Error("nothing goes out any more")
	}
}

func TestWindows(t *testing.T) { // P32.2
	l := []api.Sent{{Tick: 5, Tenant: 1, Size: 30}, {Tick: 7, Tenant: 1, Size: 40}, {Tick: 6, Tenant: 2, Size: 7}}
	for n, x := range []struct {
		tenant, width, ticks int
		want                 []int
	}{
		{1, 4, 8, []int{0, 70}}, {1, 4, 9, []int{0, 70, 0}}, {1, 1, 7, []int{0, 0, 0, 0, 30, 0, 40}}, {1, 5, 8, []int{30, 40}}, {1, 99, 8, []int{70}}, {1, math.MaxInt, 8, []int{70}}, {1, math.MaxInt, api.MaxTick, []int{70}}, {2, 3, 3, []int{0}}, {2, 3, 4, []int{0, 7}}, {3, 4, 8, []int{0, 0}},
		{1, 0, 8, nil}, {1, -1, 8, nil}, {1, 4, 0, nil}, {1, 4, -8, nil}, {1, 4, api.MaxTick + 1, nil},
	} {
		if got := drive.Windows(l, x.tenant, x.width, x.ticks); !slices.Equal(got, x.want) {
			t.Error(n, got)
		}
	}
	if got := drive.Windows(l, 1, 1, api.MaxTick); len(got) != api.MaxCourse || got[4] != 30 {
		t.Error(len(got))
	}
}

func TestPeakTenants(t *testing.T) { // P32.2
	l := []api.Sent{{Tick: 5, Tenant: 1, Size: 30}, {Tick: 7, Tenant: 1, Size: 40}, {Tick: 6, Tenant: 2, Size: 7}, {Tick: 7, Tenant: 9, Size: 1}, {Tick: 20, Tenant: 1, Size: 25}, {Tick: 20, Tenant: 1, Size: 20}}
	for n, x := range []struct{ tenant, width, want int }{{1, 1, 45}, {1, 2, 45}, {1, 3, 70}, {1, 13, 70}, {1, 14, 85}, {1, 16, 115}, {1, math.MaxInt, 115}, {2, 1, 7}, {3, 5, 0}, {1, 0, 0}, {1, -5, 0}} {
		if got := drive.Peak(l, x.tenant, x.width); got != x.want {
			t.Error(n, got)
		}
	}
	two := l[:3]
	if drive.Peak(two, 1, 2) != 40 || drive.Peak(two, 1, 3) != 70 || drive.Peak(nil, 1, 3) != 0 {
		t.Error("examples")
	}
	far := []api.Sent{{Tick: math.MinInt, Tenant: 1, Size: 3}, {Tick: math.MaxInt, Tenant: 1, Size: 4}, {Tick: math.MinInt + 1, Tenant: 1, Size: 5}}
	if got := drive.Peak(far, 1, 2); got != 8 {
		t.Error(got)
	}
	if got := drive.Tenants(l); !slices.Equal(got, []int{1, 2, 9}) || len(drive.Tenants(nil)) != 0 {
		t.Error(got)
	}
	wide := []api.Sent{{Tick: 1, Tenant: 1, Size: 3}, {Tick: 1 + api.MaxTick, Tenant: 1, Size: 4}, {Tick: api.MaxTick, Tenant: 1, Size: 5}}
	if got := drive.Peak(wide, 1, math.MaxInt); got != 9 {
		t.Error("a width above MaxTick counts as that", got)
	}
	if l[2].Tenant != 2 || l[0].Tick != 5 {
		t.Error("changed")
	}
}

// course is a random one: nodes go down and come up.
func course(r *rand.Rand) api.Course {
	c := plain()
	c.Plan.Shapers = 1 + r.Intn(3)
	c.Plan.Flows = []api.Flow{{Tenant: 1, Weight: 2, Room: 10}, {Tenant: 2, Weight: 1, Room: 10}, {Tenant: 1, Weight: 1, Room: 10}}
	c.Plan.Rho, c.Plan.Lease, c.Plan.Beat = r.Intn(201), 5+r.Intn(30), 2+r.Intn(3)
	c.Limits, c.Loads = nil, nil
	for k := range 1 + r.Intn(6) {
		c.Limits = append(c.Limits, api.Limit{At: 1 + 20*k, Tenant: 1 + r.Intn(2), Rate: r.Intn(40000), Burst: r.Intn(400)})
	}
	for range 1 + r.Intn(6) {
		c.Loads = append(c.Loads, api.Load{Shaper: 1 + r.Intn(3), Tenant: 1 + r.Intn(2), Class: r.Intn(3), Bytes: r.Intn(80), Every: 1 + r.Intn(4)})
	}
	for range r.Intn(10) {
		node := []int{1, 2, 3, 101, 102, 103}[r.Intn(6)]
		at := r.Intn(120)
		c.Harms = append(c.Harms, api.Harm{At: at, Node: node}, api.Harm{At: at + r.Intn(30), Node: node, Up: true})
	}
	c.Harms = c.Harms[:min(len(c.Harms), 16)]
	c.Ticks, c.Pump = 100+r.Intn(60), 50+r.Intn(400)
	return c
}

func TestCourses(t *testing.T) { // P32.3, P32.4
	sent := 0
	for seed := range 40 {
		r := rand.New(rand.NewSource(int64(seed)))
		c := course(r)
		o := run(t, c)
		sent += len(o.Sent)
		h := (c.Plan.Lease*1000 + 999 - c.Plan.Rho) / (1000 - c.Plan.Rho)
		if a, b, tenant, ok, e := judge.Kept(o.Sent, o.Force, h); !ok || e != api.OK {
			t.Fatal(seed, "the bound", a, b, tenant, e)
		}
		if _, ok, e := history.Fits(o.Calls); !ok || e != api.OK {
			t.Fatal(seed, "no order")
		}
		short := c
		short.Ticks = r.Intn(c.Ticks)
		p := run(t, short)
		n := len(p.Sent)
		if n > len(o.Sent) || !slices.Equal(p.Sent, o.Sent[:n]) || !reflect.DeepEqual(p.Bytes, o.Bytes[:n:n]) && n > 0 || n < len(o.Sent) && o.Sent[n].Tick <= short.Ticks {
			t.Fatal(seed, "fewer ticks")
		}
		for tenant := 1; tenant <= 3; tenant++ {
			before := 0
			for width := 1; width < 200; width += 1 + r.Intn(9) {
				w := drive.Windows(o.Sent, tenant, width, c.Ticks)
				all := 0
				peak := drive.Peak(o.Sent, tenant, width)
				for _, n := range w {
					all += n
					if n > peak {
						t.Fatal(seed, "a window is more than the peak")
					}
				}
				if all != judge.Out(o.Sent, tenant, 0, c.Ticks) || peak < before {
					t.Fatal(seed, all, peak, before)
				}
				before = peak
			}
		}
		free := c
		free.Limits = nil
		if o := run(t, free); len(o.Sent) != 0 || len(o.Force) != 0 {
			t.Fatal("without limits")
		}
	}
	if sent < 400 {
		t.Error("nothing comes of it", sent)
	}
}
