package bucket_test

import (
	"math"
	"math/rand"
	"testing"

	"weir/api"
	"weir/bucket"
)

const (
	least, most = math.MinInt, math.MaxInt
	full        = 1000 * api.MaxBurst
)

func eq(t *testing.T, what string, got, want int) {
	t.Helper()
	if got != want {
		t.Errorf("%s: %d; want %d", what, got, want)
	}
}

func TestMayRoomCut(t *testing.T) { // P16.1
	for _, x := range []struct {
		rate, burst int
		want        bool
	}{{0, 0, true}, {api.MaxRate, api.MaxBurst, true}, {api.MaxRate + 1, 0, false}, {0, api.MaxBurst + 1, false}, {-1, 0, false}, {0, -1, false}, {least, most, false}} {
		if bucket.May(x.rate, x.burst) != x.want {
			t.Error(x)
		}
	}
	eq(t, "room", bucket.Room(10, 3), 7000)
	eq(t, "room", bucket.Room(10, 10), 0)
	eq(t, "room", bucket.Room(10, 11), 0)
	eq(t, "room", bucket.Room(10, -5), 10000)
	eq(t, "room", bucket.Room(-5, -5), 0)
	eq(t, "room", bucket.Room(most, least), full)
	eq(t, "room", bucket.Room(most, 1), full-1000)
	eq(t, "room", bucket.Room(1, most), 0)
	eq(t, "cut", bucket.Cut(5000, 10, 3), 5000)
	eq(t, "cut", bucket.Cut(7001, 10, 3), 7000)
	eq(t, "cut", bucket.Cut(-1, 10, 3), 0)
	eq(t, "cut", bucket.Cut(least, 10, 99), 0)
	eq(t, "cut", bucket.Cut(most, most, least), full)
}

func TestCreditBack(t *testing.T) { // P16.2
	eq(t, "credit", bucket.Credit(0, 500, 10, 0, 10), 5000)
	eq(t, "credit", bucket.Credit(0, 500, 10, 7, 10), 3000)
	eq(t, "credit", bucket.Credit(-9, 500, 10, 0, 10), 5000)
	eq(t, "credit", bucket.Credit(700, 500, 10, 0, -10), 700)
	eq(t, "credit", bucket.Credit(700, -500, 10, 0, 10), 700)
	eq(t, "credit", bucket.Credit(99999, 0, 10, 0, 0), 10000)
	eq(t, "credit", bucket.Credit(0, most, most, 0, 5), 5*api.MaxRate)
	eq(t, "credit", bucket.Credit(most, most, most, least, most), full)
	eq(t, "credit", bucket.Credit(least, api.MaxRate, 10, 0, api.MaxTick), 10000)
	eq(t, "credit", bucket.Credit(least, least, least, least, least), 0)
	eq(t, "back", bucket.Back(1000, 10, 2, 3), 4000)
	eq(t, "back", bucket.Back(1000, 10, 2, 30), 8000)
	eq(t, "back", bucket.Back(-1000, 10, 2, 3), 3000)
	eq(t, "back", bucket.Back(1000, 10, 2, -3), 1000)
	eq(t, "back", bucket.Back(most, most, least, most), full)
	eq(t, "back", bucket.Back(0, most, 0, most), full)
}

func TestTakeWhole(t *testing.T) { // P16.3
	for _, x := range []struct {
		b, size, want int
		e             api.Errno
	}{{5999, 6, 0, api.ErrPoor}, {5999, 5, 999, 0}, {5999, 0, 5999, 0}, {5999, -1, 0, api.ErrPoor}, {0, 1, 0, api.ErrPoor}, {-7, 0, -7, 0}, {-7, 1, 0, api.ErrPoor}, {most, most, 0, api.ErrPoor}, {most, most / 1000, most % 1000, 0}, {5, least, 0, api.ErrPoor}} {
		if got, e := bucket.Take(x.b, x.size); got != x.want || e != x.e {
			t.Error(x, got, e)
		}
	}
	for b, want := range map[int]int{0: 0, 999: 0, 1000: 1, 5999: 5, -1: 0, -5000: 0, least: 0, most: most / 1000} {
		eq(t, "whole", bucket.Whole(b), want)
	}
}

func TestCap(t *testing.T) { // P16.4
	r := rand.New(rand.NewSource(1))
	for range 5000 {
		b, rate, burst, out, ticks, u := r.Intn(30000)-2000, r.Intn(3000), r.Intn(25), r.Intn(30)-3, r.Intn(30), r.Intn(30)
		c := bucket.Credit(b, rate, burst, out, ticks)
		for _, x := range []int{c, bucket.Cut(b, burst, out), bucket.Back(b, burst, out, ticks)} {
			if x != 0 && x+1000*max(out, 0) > 1000*burst || x < 0 {
				t.Fatal(b, burst, out, x)
			}
		}
		if bucket.Credit(c, rate, burst, out, u) != bucket.Credit(b, rate, burst, out, ticks+u) {
			t.Fatal("t, then u")
		}
		if c > max(b, 0)+rate*ticks || bucket.Cut(b, burst, out) > max(b, 0) {
			t.Fatal("made")
		}
	}
}

func TestStretch(t *testing.T) { // P16.5
	r := rand.New(rand.NewSource(2))
	for range 200 {
		rate, burst := r.Intn(2000), r.Intn(40)
		b, out, now := 0, 0, 0
		type taken struct{ at, size int }
		var l []taken
		for range 80 {
			switch r.Intn(4) {
			case 0, 1:
				d := r.Intn(10)
				b = bucket.Credit(b, rate, burst, out, d)
				now += d
			case 2:
				size := r.Intn(bucket.Whole(b) + 2)
				if next, e := bucket.Take(b, size); e == api.OK {
					b, out = next, out+size
					l = append(l, taken{now, size})
				}
			default:
				out -= r.Intn(out + 1)
			}
		}
		for i := range l {
			sum := 0
			for _, x := range l[i:] {
				sum += x.size
				if 1000*sum > 1000*burst+rate*(x.at-l[i].at) {
					t.Fatal(rate, burst, sum)
				}
			}
		}
	}
}
