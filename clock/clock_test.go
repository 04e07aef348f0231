package clock_test

import (
	"math"
	"math/big"
	"math/rand"
	"testing"

	"weir/api"
	"weir/clock"
)

func at(t *testing.T, c *clock.Clock, now, ticks int) {
	t.Helper()
	if c.Now() != now || c.True() != ticks {
		t.Errorf("%d, %d; want %d, %d", c.Now(), c.True(), now, ticks)
	}
}

func TestNew(t *testing.T) { // P3.1
	for _, rho := range []int{-1, api.MaxRho + 1, math.MinInt, math.MaxInt} {
		if c, e := clock.New(rho); c != nil || e != api.ErrArg {
			t.Error(rho, c, e)
		}
	}
	for _, rho := range []int{0, 1, api.MaxRho} {
		c, e := clock.New(rho)
		if c == nil || e != api.OK {
			t.Fatal(rho, e)
		}
		at(t, c, 0, 0)
	}
}

func TestStep(t *testing.T) { // P3.1
	c, _ := clock.New(100)
	now, ticks := 0, 0
	for _, x := range []struct{ ticks, wish, goes int }{
		{10, 10000, 10000}, {10, 99999, 11000}, {10, 9000, 9000}, {10, 8999, 9000}, {10, 11000, 11000}, {10, 11001, 11000},
		{0, 5, 0}, {0, -5, 0}, {1, math.MinInt, 900}, {1, math.MaxInt, 1100},
	} {
		if e := c.Step(x.ticks, x.wish); e != api.OK {
			t.Error(x, e)
		}
		now, ticks = now+x.goes, ticks+x.ticks
		at(t, c, now, ticks)
	}
	for _, n := range []int{-1, math.MinInt, math.MaxInt, api.MaxTick, api.MaxTick - ticks + 1} {
		if e := c.Step(n, 1000); e != api.ErrArg {
			t.Error(n, e)
		}
	}
	at(t, c, now, ticks)
	left := api.MaxTick - ticks
	if c.Step(left, math.MaxInt) != api.OK || c.Step(1, 0) != api.ErrArg || c.Step(0, 0) != api.OK {
		t.Error("to the end")
	}
	at(t, c, now+left*1100, api.MaxTick)
}

func TestNilAndCopy(t *testing.T) { // P3.1
	var none *clock.Clock
	at(t, none, 0, 0)
	if none.Step(-1, 0) != api.ErrNil || none.Copy() != nil {
		t.Error("nil")
	}
	c, _ := clock.New(200)
	c.Step(3, 3100)
	d := c.Copy()
	at(t, d, 3100, 3)
	c.Step(1, 0)
	at(t, d, 3100, 3)
	d.Step(1, 9999)
	at(t, c, 3900, 4)
	at(t, d, 4300, 4)
}

func TestSurelyAndOver(t *testing.T) { // P3.2
	for _, x := range []struct{ got, want int }{
		{clock.Surely(10999, 100), 9}, {clock.Surely(11000, 100), 10}, {clock.Surely(-5, 100), 0}, {clock.Surely(5000, -1), 5}, {clock.Surely(1200, 999), 1},
		{clock.Surely(math.MaxInt, 0), (1 << 50) / 1000}, {clock.Surely(1<<50, 200), (1 << 50) / 1200},
		{clock.Over(10, 100), 12223}, {clock.Over(10, 0), 10000}, {clock.Over(0, 200), 0}, {clock.Over(-3, 200), 0}, {clock.Over(1, 200), 1500}, {clock.Over(2, 500), 3000}, {clock.Over(2, -7), 2000},
		{clock.Over(math.MaxInt, 200), 1500 << 40}, {clock.Over(1<<40, 100), clock.Over(1<<50, 100)},
	} {
		if x.got != x.want {
			t.Errorf("%d; want %d", x.got, x.want)
		}
	}
	r := rand.New(rand.NewSource(1))
	for range 2000 {
		ticks, rho := r.Intn(1<<uint(1+r.Intn(40))), r.Intn(201)
		p := new(big.Int).Mul(big.NewInt(int64(ticks)), big.NewInt(int64(1000*(1000+rho))))
		p.Add(p, big.NewInt(int64(1000-rho-1))).Div(p, big.NewInt(int64(1000-rho)))
		if got := clock.Over(ticks, rho); p.Cmp(big.NewInt(int64(got))) != 0 {
			t.Fatal(ticks, rho, got, p)
		}
	}
}

// TestDrift steps two clocks through the same stretches, however it is wished.
func TestDrift(t *testing.T) { // P3.3
	r := rand.New(rand.NewSource(2))
	for n := range 300 {
		rho, ticks := r.Intn(201), 1+r.Intn(50)
		a, _ := clock.New(rho)
		b, _ := clock.New(rho)
		for n%2 == 0 && a.True() < 40 || n%2 == 1 && a.Now() < clock.Over(ticks, rho) {
			d := r.Intn(4)
			a.Step(d, r.Intn(6000))
			b.Step(d, r.Intn(6000)-1000)
			for _, c := range []*clock.Clock{a, b} {
				if m := c.True(); c.Now() < m*(1000-rho) || c.Now() > m*(1000+rho) || clock.Surely(c.Now(), rho) > m {
					t.Fatal(rho, c.Now(), m)
				}
			}
		}
		if n%2 == 1 && b.Now() < 1000*ticks {
			t.Fatal("not over", rho, ticks, a.Now(), b.Now())
		}
	}
}
