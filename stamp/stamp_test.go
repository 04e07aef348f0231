package stamp_test

import (
	"math"
	"math/rand"
	"testing"

	"weir/api"
	"weir/clock"
	"weir/stamp"
)

func TestStamper(t *testing.T) { // P20.1
	for _, x := range [][2]int{{-1, 0}, {201, 0}, {0, -1}, {0, 1<<50 + 1}, {math.MinInt, math.MaxInt}} {
		if s, e := stamp.New(x[0], x[1]); s != nil || e != api.ErrArg {
			t.Error(x, e)
		}
	}
	for _, x := range [][2]int{{0, 0}, {200, 1 << 50}} {
		if s, e := stamp.New(x[0], x[1]); s == nil || e != api.OK || s.Last() != 0 {
			t.Error(x, e)
		}
	}
	s, _ := stamp.New(100, 5000)
	last := 0
	for n, x := range []struct {
		now, want int
		e         api.Errno
	}{{6099, 0, 0}, {6100, 1, 0}, {7200, 2, 0}, {7000, 2, 0}, {4999, 0, api.ErrArg}, {5000, 2, 0}, {1<<50 + 1, 0, api.ErrArg}, {-1, 0, api.ErrArg}, {8300, 3, 0}, {1 << 50, (1<<50 - 5000) / 1100, 0}, {8300, (1<<50 - 5000) / 1100, 0}} {
		got, e := s.At(x.now)
		if got != x.want || e != x.e {
			t.Error(n, got, e)
		}
		if e == api.OK {
			last = got
		}
		if s.Last() != last {
			t.Error(n, s.Last())
		}
	}
	var none *stamp.Stamper
	if got, e := none.At(-1); got != 0 || e != api.ErrNil || none.Last() != 0 {
		t.Error(got, e)
	}
}

func TestCreditWait(t *testing.T) { // P20.2
	for n, x := range []struct {
		term, stamp, t, s, want int
	}{{3, 10, 3, 15, 5}, {3, 10, 3, 10, 0}, {3, 10, 3, 9, 0}, {3, 10, 4, 15, 0}, {3, 10, 2, 15, 0}, {-3, -10, -3, -4, 6}, {1, -1, 1, math.MaxInt, math.MinInt}, {1, math.MinInt, 1, math.MaxInt, -1}} {
		if got := stamp.Credit(x.term, x.stamp, api.Entry{Term: x.t, Stamp: x.s}); got != x.want {
			t.Error(n, got)
		}
	}
	all := clock.Over(10, 100)
	for n, x := range []struct{ ticks, rho, began, now, want int }{
		{10, 100, 500, 500, all}, {10, 100, 500, 499, all}, {10, 100, 500, math.MinInt, all}, {10, 100, 500, 501, all - 1}, {10, 100, 500, 500 + all - 1, 1}, {10, 100, 500, 500 + all, 0}, {10, 100, 500, math.MaxInt, 0}, {10, 100, math.MinInt, math.MaxInt, 0},
		{-4, 100, 500, 400, 0}, {10, -9, 0, 3, 9997}, {10, 999, 0, 0, 15000}, {math.MaxInt, 200, 0, 1, clock.Over(1<<40, 200) - 1},
	} {
		if got := stamp.Wait(x.ticks, x.rho, x.began, x.now); got != x.want {
			t.Error(n, got)
		}
	}
}

func TestNeverTooMuch(t *testing.T) { // P20.3
	r := rand.New(rand.NewSource(1))
	for range 300 {
		rho := r.Intn(201)
		c, _ := clock.New(rho)
		c.Step(r.Intn(50), r.Intn(60000))
		s, _ := stamp.New(rho, c.Now())
		var at, stamps []int
		sum, term := 0, 7
		for range 20 {
			c.Step(r.Intn(5), r.Intn(9000)-1000)
			x, e := s.At(c.Now())
			if e != api.OK {
				t.Fatal(e)
			}
			for k := range at {
				if x-stamps[k] > c.True()-at[k] || x < stamps[k] {
					t.Fatal(x, stamps[k], c.True(), at[k])
				}
			}
			if len(stamps) > 0 {
				sum += stamp.Credit(term, stamps[len(stamps)-1], api.Entry{Term: term, Stamp: x})
			}
			at, stamps = append(at, c.True()), append(stamps, x)
		}
		if sum != stamps[len(stamps)-1]-stamps[0] {
			t.Fatal(sum)
		}
	}
}
