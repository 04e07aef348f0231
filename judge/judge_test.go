package judge_test

import (
	"math"
	"math/rand"
	"slices"
	"testing"

	"weir/api"
	"weir/judge"
	"weir/packet"
)

func sent(tick, tenant, size int) api.Sent { return api.Sent{Tick: tick, Tenant: tenant, Size: size} }

func force(tick, tenant, rate, burst int) api.Force {
	return api.Force{Tick: tick, Tenant: tenant, Rate: rate, Burst: burst}
}

func TestCheck(t *testing.T) { // P30.1
	good, policy := []api.Sent{sent(1, 1, 1)}, []api.Force{force(0, 1, 0, 0)}
	for n, x := range []struct {
		l []api.Sent
		f []api.Force
	}{
		{[]api.Sent{sent(0, 1, 1)}, nil}, {[]api.Sent{sent(api.MaxTick+1, 1, 1)}, nil}, {[]api.Sent{sent(5, 1, 1), sent(4, 1, 1)}, nil}, {[]api.Sent{sent(5, 1, 0)}, nil}, {[]api.Sent{sent(5, 1, 1501)}, nil}, {[]api.Sent{sent(5, 0, 1)}, nil}, {[]api.Sent{sent(5, 17, 1)}, nil},
		{good, []api.Force{force(-1, 1, 0, 0)}}, {good, []api.Force{force(api.MaxTick+1, 1, 0, 0)}}, {good, []api.Force{force(5, 1, 0, 0), force(4, 2, 0, 0)}}, {good, []api.Force{force(5, 0, 0, 0)}}, {good, []api.Force{force(5, 17, 0, 0)}}, {good, []api.Force{force(5, 1, -1, 0)}}, {good, []api.Force{force(5, 1, 0, api.MaxBurst+1)}},
	} {
		s, u, tenant, ok, e := judge.Kept(x.l, x.f, 5)
		if judge.Check(x.l, x.f) || s != 0 || u != 0 || tenant != 0 || ok || e != api.ErrArg {
			t.Error(n)
		}
	}
	if !judge.Check(nil, nil) || !judge.Check(good, policy) || !judge.Check([]api.Sent{sent(5, 16, 1500), sent(5, 1, 1), sent(api.MaxTick, 1, 1)}, []api.Force{force(5, 16, api.MaxRate, api.MaxBurst), force(5, 1, 0, 0), force(api.MaxTick, 1, 0, 0)}) {
		t.Error("may be")
	}
}

func TestOutBound(t *testing.T) { // P30.1
	l := []api.Sent{sent(5, 1, 100), sent(5, 2, 7), sent(7, 1, 4), sent(9, 1, 2)}
	for _, x := range []struct{ tenant, s, t, want int }{{1, 4, 7, 104}, {1, 5, 7, 4}, {1, 4, 6, 100}, {1, 0, 99, 106}, {1, 7, 4, 0}, {2, 0, 99, 7}, {3, 0, 99, 0}, {1, math.MinInt, math.MaxInt, 106}} {
		if got := judge.Out(l, x.tenant, x.s, x.t); got != x.want {
			t.Error(x, got)
		}
	}
	f := []api.Force{force(10, 1, 5, 300), force(20, 1, 50, 20), force(20, 2, 999, 999), force(30, 1, 7, 100)}
	for n, x := range []struct{ tenant, s, t, h, want int }{
		{1, 0, 5, 0, 0}, {1, 0, 9, 100, 0}, {1, 0, 10, 0, 300000 + 50}, {1, 12, 15, 0, 300000 + 15}, {1, 12, 20, 0, 300000 + 50*8}, {1, 20, 22, 0, 300000 + 50*2}, {1, 21, 22, 0, 20000 + 50}, {1, 21, 22, 1, 300000 + 50}, {1, 25, 30, 0, 100000 + 250}, {1, 40, 50, 9, 100000 + 70}, {1, 40, 50, 10, 100000 + 500}, {1, 40, 50, 20, 300000 + 500}, {1, 40, 50, math.MaxInt, 300000 + 500},
		{1, 15, 15, 5, 0}, {1, 16, 15, 5, 0}, {3, 0, 99, 5, 0}, {1, 12, 15, -5, 300000 + 15}, {1, -9, 10, 0, 300000 + 50}, {1, -9, -3, 0, 0}, {1, 40, math.MaxInt, 0, 100000 + 7*(api.MaxTick-40)}, {1, math.MaxInt, math.MaxInt, 0, 0}, {2, 20, 21, 0, 999999},
	} {
		if got := judge.Bound(f, x.tenant, x.s, x.t, x.h); got != x.want {
			t.Error(n, got, x.want)
		}
	}
	if got := judge.Bound([]api.Force{force(0, 1, -5, -5)}, 1, 0, 5, 0); got != 0 {
		t.Error(got)
	}
	same := []api.Force{force(5, 1, 0, 1), force(5, 1, 0, 9), force(5, 1, 0, 2)}
	if judge.Bound(same, 1, 4, 5, 0) != 9000 || judge.Bound(same, 1, 5, 6, 0) != 9000 || judge.Bound(same, 1, 6, 7, 0) != 2000 || judge.Bound(same, 1, 6, 7, 1) != 9000 {
		t.Error("several at one tick")
	}
}

func TestKept(t *testing.T) { // P30.2
	f := []api.Force{force(0, 1, 1000, 100), force(0, 3, 0, 10)}
	for n, x := range []struct {
		l            []api.Sent
		s, t, tenant int
		ok           bool
	}{
		{nil, 0, 0, 0, true}, {[]api.Sent{sent(5, 1, 100), sent(7, 1, 4)}, 4, 7, 1, false}, {[]api.Sent{sent(5, 1, 100), sent(7, 1, 3)}, 0, 0, 0, true}, {[]api.Sent{sent(5, 1, 101)}, 0, 0, 0, true}, {[]api.Sent{sent(5, 1, 102)}, 4, 5, 1, false}, {[]api.Sent{sent(5, 1, 60), sent(5, 1, 42)}, 4, 5, 1, false},
		{[]api.Sent{sent(1, 1, 1), sent(5, 1, 100), sent(7, 1, 4), sent(8, 1, 50)}, 0, 8, 1, false}, {[]api.Sent{sent(2, 3, 11), sent(5, 1, 200)}, 4, 5, 1, false}, {[]api.Sent{sent(2, 3, 10), sent(900, 3, 1)}, 1, 900, 3, false}, {[]api.Sent{sent(2, 2, 1)}, 1, 2, 2, false},
	} {
		if s, u, tenant, ok, e := judge.Kept(x.l, f, 3); s != x.s || u != x.t || tenant != x.tenant || ok != x.ok || e != api.OK {
			t.Error(n, s, u, tenant, ok, e)
		}
	}
}

// slow is Kept as the words tell it, of all s below t.
func slow(l []api.Sent, f []api.Force, h int) (int, int, int, bool) {
	end := 0
	for _, x := range l {
		end = max(end, x.Tick)
	}
	for tenant := 1; tenant <= 16; tenant++ {
		kept := true
		for s := 0; s < end; s++ {
			for u := s + 1; u <= end; u++ {
				kept = kept && 1000*judge.Out(l, tenant, s, u) <= judge.Bound(f, tenant, s, u, h)
			}
		}
		if kept {
			continue
		}
		for _, x := range l {
			for _, y := range l {
				if x.Tenant == tenant && y.Tenant == tenant && 1000*judge.Out(l, tenant, x.Tick-1, y.Tick) > judge.Bound(f, tenant, x.Tick-1, y.Tick, h) {
					return x.Tick - 1, y.Tick, tenant, false
				}
			}
		}
		return -1, -1, tenant, false
	}
	return 0, 0, 0, true
}

func TestKeptSlowly(t *testing.T) { // P30.2, P30.5
	r := rand.New(rand.NewSource(1))
	broken := 0
	for range 1500 {
		var l []api.Sent
		var f []api.Force
		at := 1
		for range r.Intn(8) {
			at += r.Intn(6)
			l = append(l, sent(at, 1+r.Intn(2), 1+r.Intn(30)))
		}
		at = 0
		for range r.Intn(5) {
			at += r.Intn(9)
			f = append(f, force(at, 1+r.Intn(2), r.Intn(3000), r.Intn(70)))
		}
		h := r.Intn(12) - 2
		s, u, tenant, ok, e := judge.Kept(l, f, h)
		a, b, c, d := slow(l, f, h)
		if s != a || u != b || tenant != c || ok != d || e != api.OK {
			t.Fatal(l, f, h, s, u, tenant, ok, a, b, c, d)
		}
		if !ok {
			broken++
			continue
		}
		for k := range l {
			if _, _, _, ok, _ := judge.Kept(l[:k], f, h); !ok {
				t.Fatal("a beginning")
			}
		}
		if _, _, _, ok, _ := judge.Kept(l, f, h+r.Intn(20)); !ok {
			t.Fatal("a greater h")
		}
	}
	if broken < 300 || broken > 1400 {
		t.Error(broken)
	}
}

func TestWhole(t *testing.T) { // P30.3
	flows := []api.Flow{{Tenant: 1}, {Tenant: 1}, {Tenant: 2}}
	build := func(tenant, class int) []byte {
		b, _ := packet.Build(api.Packet{Tenant: tenant, Class: class, Load: []byte{byte(class), 1}})
		return b
	}
	in := [][]byte{build(1, 0), build(1, 1), build(2, 0), build(1, 2), build(3, 0), []byte("none"), build(1, 0)}
	at := func(p, tenant, flow int) api.Sent {
		return api.Sent{Tick: 9 - p, Packet: p, Tenant: tenant, Flow: flow, Size: 10}
	}
	good := []api.Sent{at(2, 1, 1), at(1, 1, 0), at(3, 2, 2), at(4, 1, 0), at(7, 1, 0)}
	bytes := func(l []api.Sent) [][]byte {
		var out [][]byte
		for _, x := range l {
			out = append(out, slices.Clone(in[x.Packet-1]))
		}
		return out
	}
	if !judge.Whole(in, flows, good, bytes(good)) || !judge.Whole(in, flows, nil, nil) || !judge.Whole(nil, nil, nil, nil) {
		t.Error("good")
	}
	for n, l := range [][]api.Sent{{at(1, 1, 0), at(1, 1, 0)}, {at(4, 1, 0), at(1, 1, 0)}, {at(5, 3, 0)}, {at(6, 1, 0)}, {at(1, 2, 0)}, {at(1, 1, 1)}, {{Packet: 1, Tenant: 1, Size: 11}}} {
		if judge.Whole(in, flows, l, bytes(l)) {
			t.Error(n)
		}
	}
	if judge.Whole(in, flows, good, bytes(good)[1:]) || judge.Whole(in, flows, good[1:], bytes(good)) || judge.Whole(in, flows, []api.Sent{at(1, 1, 0)}, [][]byte{in[3]}) || judge.Whole(in, flows, []api.Sent{{Packet: 0, Tenant: 1, Size: 10}}, in[:1]) || judge.Whole(in, flows, []api.Sent{{Packet: 8, Tenant: 1, Size: 10}}, in[:1]) || judge.Whole(in, nil, good, bytes(good)) {
		t.Error("bad")
	}
}

func TestFair(t *testing.T) { // P30.4
	flows := []api.Flow{{Weight: 3}, {Weight: 1}}
	row := func(l ...int) []api.Sent { // of these flows, packets of 100 bytes
		var out []api.Sent
		for _, k := range l {
			out = append(out, api.Sent{Flow: k, Size: 100})
		}
		return out
	}
	// of flow 0 in bytes: 4 * served is at least 3 * all - (2 * 100 * 4 + (100 - 200) * 3) = 3 * all - 500
	if !judge.Fair(flows, row(1), 0, 100, 100) || judge.Fair(flows, row(1, 1), 0, 100, 100) || !judge.Fair(flows, row(0, 1, 0, 0, 0, 1, 0), 0, 100, 100) || judge.Fair(flows, row(0, 0, 0, 0, 0, 0, 1, 1), 0, 100, 100) || !judge.Fair(flows, nil, 1, 0, 0) {
		t.Error("fair")
	}
	if judge.Fair(flows, nil, 2, 0, 0) || judge.Fair(flows, nil, -1, 0, 0) || judge.Fair(nil, nil, 0, 0, 0) || judge.Fair([]api.Flow{{Weight: 1}, {}}, nil, 0, 0, 0) || judge.Fair([]api.Flow{{Weight: 17}}, nil, 0, 0, 0) || judge.Fair(slices.Repeat(flows, 5), nil, 0, 0, 0) || !judge.Fair(slices.Repeat(flows, 4), nil, 7, 0, 0) {
		t.Error("none")
	}
	r := rand.New(rand.NewSource(1))
	unfair := 0
	for range 2000 {
		var l []api.Sent
		n := 1 + r.Intn(4)
		var flows []api.Flow
		all := 0
		for range n {
			flows = append(flows, api.Flow{Weight: 1 + r.Intn(16)})
			all += flows[len(flows)-1].Weight
		}
		for range r.Intn(12) {
			l = append(l, api.Sent{Flow: r.Intn(n+2) - 1, Size: r.Intn(1700) - 50})
		}
		flow, least, most := r.Intn(n), r.Intn(500)-20, r.Intn(1800)-20
		bring := func(x int) int { return min(max(x, 0), api.MaxPacket) }
		want := true
		w := flows[flow].Weight
		for from := range l {
			mine, sum := 0, 0
			for _, x := range l[from:] {
				sum += bring(x.Size)
				if x.Flow == flow {
					mine += bring(x.Size)
				}
				want = want && mine*all >= w*sum-(2*bring(least)*all+(bring(most)-2*bring(least))*w)
			}
		}
		if judge.Fair(flows, l, flow, least, most) != want {
			t.Fatal(flows, l, flow, least, most, want)
		}
		if !want {
			unfair++
		}
	}
	if unfair < 200 || unfair > 1900 {
		t.Error(unfair)
	}
}
