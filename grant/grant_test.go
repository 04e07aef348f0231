package grant_test

import (
	"math"
	"math/rand"
	"slices"
	"testing"

	"weir/api"
	"weir/clock"
	"weir/grant"
)

func leases(ids ...int) api.State {
	var s api.State
	for _, id := range ids {
		s.Leases = append(s.Leases, api.Lease{Id: id})
	}
	return s
}

func over(t *testing.T, d *grant.Desk, s api.State, now int, want ...int) {
	t.Helper()
	if got := d.Over(s, now); !slices.Equal(got, want) {
		t.Errorf("at %d: %v; want %v", now, got, want)
	}
}

func TestNew(t *testing.T) { // P21.1
	for _, x := range [][3]int{{0, 0, 0}, {-1, 0, 0}, {1<<40 + 1, 0, 0}, {1, -1, 0}, {1, 201, 0}, {1, 0, -1}, {math.MaxInt, math.MaxInt, math.MinInt}} {
		if d, e := grant.New(x[0], x[1], x[2]); d != nil || e != api.ErrArg {
			t.Error(x, e)
		}
	}
	for _, x := range [][3]int{{1, 0, 0}, {1 << 40, 200, math.MaxInt}} {
		if d, e := grant.New(x[0], x[1], x[2]); d == nil || e != api.OK {
			t.Error(x, e)
		}
	}
	var none *grant.Desk
	if none.Made(0, -1) != api.ErrNil || none.Gone() != api.ErrNil || none.Over(leases(1), 1<<60) != nil {
		t.Error("nil")
	}
	if z := new(grant.Desk); z.Gone(1) != api.OK || z.Made(1, 1) != api.OK {
		t.Error("zero")
	}
}

func TestOver(t *testing.T) { // P21.1, P21.2
	lasts := clock.Over(10, 100)
	d, _ := grant.New(10, 100, 5000)
	s := leases(4, 2, 9, 2, 0, -3)
	over(t, d, s, 5000)
	if d.Made(0, 6000) != api.ErrArg || d.Made(2, 4999) != api.ErrArg || d.Made(-1, 6000) != api.ErrArg {
		t.Error("made")
	}
	if d.Made(4, 6000) != api.OK || d.Made(4, 9000) != api.OK || d.Made(9, 7000) != api.OK {
		t.Error("made")
	}
	over(t, d, s, 5000+lasts-1)
	over(t, d, s, 5000+lasts, -3, 0, 2, 2)
	over(t, d, s, 6000+lasts-1, -3, 0, 2, 2)
	over(t, d, s, 6000+lasts, -3, 0, 2, 2, 4)
	over(t, d, s, 0, -3, 0, 2, 2, 4) // as of the greatest now
	over(t, d, leases(4, 9), math.MaxInt, 4, 9)
	d, _ = grant.New(10, 100, 5000)
	d.Over(s, 9000)
	d.Made(4, 6000) // made ahead of what was told since
	over(t, d, leases(4), 6000+lasts-1)
	over(t, d, leases(4), 6000+lasts, 4)
	over(t, d, api.State{}, 1<<60)
	d, _ = grant.New(10, 100, 5000)
	d.Made(7, 5000+lasts) // a now that was told, too
	over(t, d, leases(7, 8), 0, 8)
}

func TestGone(t *testing.T) { // P21.1
	lasts := clock.Over(10, 0)
	d, _ := grant.New(10, 0, 0)
	for id := 1; id < 5; id++ {
		d.Made(id, 1000)
	}
	if d.Gone() != api.OK || d.Gone(2, 4, 4, 77, -1) != api.OK {
		t.Error("gone")
	}
	over(t, d, leases(1, 2, 3, 4), lasts, 2, 4) // as if an earlier leader had granted them
	d.Made(2, 2000)
	over(t, d, leases(1, 2, 3, 4), lasts+1999, 1, 3, 4)
	over(t, d, leases(1, 2, 3, 4), lasts+2000, 1, 2, 3, 4)
}

func TestShare(t *testing.T) { // P21.3
	for n, x := range []struct{ bucket, want, others, least, most, share int }{
		{10000, 50, 1, 1, 100, 5}, {3000, 50, 0, 10, 100, 0}, {11000, 50, 1, 1, 100, 6}, {10999, 50, 1, 1, 100, 5}, {10000, 3, 0, 5, 100, 3}, {10000, 50, 0, 1, 4, 4}, {10000, 50, 0, 5, 4, 0}, {10000, 4, 0, 5, 4, 4}, {10000, 50, 0, 10, 100, 10}, {9000, 50, 0, 10, 100, 0},
		{999, 50, 0, 0, 100, 0}, {-5000, 50, 0, 0, 100, 0}, {5000, -50, 0, 1, 100, 0}, {5000, 50, -3, -1, 100, 5}, {5000, 50, 0, 1, -100, 0}, {9000, 50, 99, 1, 100, 1}, {18000, 50, 8, 1, 100, 2}, {18000, 50, math.MaxInt, 1, 100, 2},
		{math.MaxInt, math.MaxInt, 0, 0, math.MaxInt, math.MaxInt / 1000}, {math.MinInt, math.MinInt, math.MinInt, math.MinInt, math.MinInt, 0}, {0, 0, 0, 9, 9, 0},
	} {
		if got := grant.Share(x.bucket, x.want, x.others, x.least, x.most); got != x.share {
			t.Error(n, got)
		}
	}
	r := rand.New(rand.NewSource(1))
	for range 3000 {
		b, want := r.Intn(90000), r.Intn(60)
		if got := grant.Share(b, want, r.Intn(10), r.Intn(20), r.Intn(80)); got > want || 1000*got > b {
			t.Fatal(b, want, got)
		}
	}
}

// TestSurely steps a leader's and a shaper's clock: the ask is sent, the entry is made, time goes by.
func TestSurely(t *testing.T) { // P21.4
	r := rand.New(rand.NewSource(2))
	for range 300 {
		rho, ticks := r.Intn(201), 1+r.Intn(30)
		leader, _ := clock.New(rho)
		shaper, _ := clock.New(rho)
		step := func() {
			n := r.Intn(4)
			leader.Step(n, r.Intn(6000))
			shaper.Step(n, r.Intn(6000))
		}
		step()
		d, _ := grant.New(ticks, rho, leader.Now())
		step()
		sent := shaper.Now()
		step()
		d.Made(1, leader.Now())
		for len(d.Over(leases(1), leader.Now())) == 0 {
			step()
		}
		if shaper.Now()-sent < 1000*ticks {
			t.Fatal(rho, ticks, shaper.Now()-sent)
		}
	}
}
