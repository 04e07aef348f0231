package conf_test

import (
	"math"
	"math/bits"
	"slices"
	"testing"

	"weir/api"
	"weir/conf"
)

func set(nodes ...int) uint8 {
	s := uint8(0)
	for _, n := range nodes {
		s |= 1 << (n - 1)
	}
	return s
}

// log has entries of these terms, each of a set if it is below 0.
func log(base, term int, terms ...int) api.Rows {
	r := api.Rows{Base: base, Term: term}
	for k, t := range terms {
		x := api.Entry{Term: t}
		if t < 0 {
			x = api.Entry{Term: -t, Kind: api.EntrySet, Set: uint8(base + k + 1)}
		}
		r.Entries = append(r.Entries, x)
	}
	return r
}

func TestSets(t *testing.T) { // P12.1
	for s := range 256 {
		x := uint8(s)
		low := x & 127
		if conf.May(x) != (s > 0 && s < 128) || conf.Size(x) != bits.OnesCount8(low) {
			t.Error(s)
		}
		var l []int
		for node := -2; node < 70; node++ {
			has := node >= 1 && node <= 7 && s>>(node-1)&1 == 1
			if conf.Has(x, node) != has {
				t.Error(s, node)
			}
			if has {
				l = append(l, node)
			}
		}
		m := conf.Members(x)
		for range 2 {
			if got := slices.Collect(m); !slices.Equal(got, l) {
				t.Error(s, got)
			}
		}
		for n := range m {
			if n != l[0] {
				t.Error(n)
			}
			break
		}
		for yes := range 256 {
			if conf.Most(x, uint8(yes)) != (low > 0 && bits.OnesCount8(low&uint8(yes)) > bits.OnesCount8(low)/2) {
				t.Error(s, yes)
			}
		}
	}
	if conf.Has(255, math.MinInt) || conf.Has(255, math.MaxInt) {
		t.Error("has")
	}
}

// majorities are all of a set.
func majorities(s uint8) []uint8 {
	var l []uint8
	for x := range 128 {
		if uint8(x)&^s == 0 && conf.Most(s, uint8(x)) {
			l = append(l, uint8(x))
		}
	}
	return l
}

func TestMeets(t *testing.T) { // P12.1
	if !conf.Meets(set(1, 2, 3), set(1, 2, 3, 4)) || conf.Meets(set(1, 2, 3), set(1, 4, 5)) || conf.Meets(0, 1) || conf.Meets(1, 0) || conf.Meets(129, 1) || conf.Meets(1, 129) {
		t.Error("meets")
	}
	for a := 1; a < 64; a++ {
		for b := 1; b < 64; b++ {
			want := true
			for _, x := range majorities(uint8(a)) {
				for _, y := range majorities(uint8(b)) {
					want = want && x&y != 0
				}
			}
			if conf.Meets(uint8(a), uint8(b)) != want {
				t.Fatal(a, b, want)
			}
		}
	}
}

func TestLatest(t *testing.T) { // P12.2
	for n, x := range []struct {
		r     api.Rows
		set   uint8
		index int
		e     api.Errno
	}{
		{log(0, 0), 77, 0, 0}, {log(5, 1, 1, 1), 77, 5, 0}, {log(5, 1, -1, 1, -1, 1), 8, 8, 0}, {log(5, 1, -1, 1), 6, 6, 0}, {log(-1, 0), 0, 0, api.ErrRows},
	} {
		if s, i, e := conf.Latest(x.r, 77); s != x.set || i != x.index || e != x.e {
			t.Error(n, s, i, e)
		}
	}
}

func TestAddRemove(t *testing.T) { // P12.3
	for n, x := range []struct {
		s      uint8
		node   int
		add    uint8
		e      api.Errno
		remove uint8
		f      api.Errno
	}{
		{set(1, 2, 3), 4, set(1, 2, 3, 4), 0, 0, api.ErrNone}, {set(1, 2, 3), 3, 0, api.ErrTwice, set(1, 2), 0}, {set(3), 3, 0, api.ErrTwice, 0, api.ErrFull}, {set(3), 7, set(3, 7), 0, 0, api.ErrNone},
		{0, 1, 0, api.ErrArg, 0, api.ErrArg}, {129, 1, 0, api.ErrArg, 0, api.ErrArg}, {3, 0, 0, api.ErrArg, 0, api.ErrArg}, {3, 8, 0, api.ErrArg, 0, api.ErrArg}, {3, -1, 0, api.ErrArg, 0, api.ErrArg}, {3, math.MinInt, 0, api.ErrArg, 0, api.ErrArg},
	} {
		a, e := conf.Add(x.s, x.node)
		b, f := conf.Remove(x.s, x.node)
		if a != x.add || e != x.e || b != x.remove || f != x.f {
			t.Error(n, a, e, b, f)
		}
	}
}

func TestFree(t *testing.T) { // P12.4
	for n, x := range []struct {
		r            api.Rows
		term, commit int
		want         api.Errno
	}{
		{log(-1, 0), 1, 0, api.ErrRows},
		{log(0, 0, 1, 2), 2, 2, 0}, {log(0, 0, 1, 2), 2, 1, api.ErrBusy}, {log(0, 0, 1, 2), 1, 1, 0}, {log(0, 0, 1, 2), 3, 2, api.ErrBusy}, {log(0, 0, 1, 2), 1, 0, api.ErrBusy},
		{log(0, 0, 1, -1, 1), 1, 1, api.ErrBusy}, {log(0, 0, 1, -1, 1), 1, 2, 0}, {log(0, 0, -1), 1, 99, 0},
		{log(5, 2, 3), 2, 5, 0}, {log(5, 2, 3), 2, 4, api.ErrBusy}, {log(5, 2, 3), 3, 5, api.ErrBusy}, {log(5, 2, 3), 3, 6, 0}, {log(0, 0), 0, 0, api.ErrBusy}, {log(0, 0, 1), 0, 1, api.ErrBusy},
	} {
		if e := conf.Free(x.r, 7, x.term, x.commit); e != x.want {
			t.Error(n, e)
		}
	}
}

func TestOneAtATime(t *testing.T) { // P12.5
	for s := 1; s < 128; s++ {
		for node := 1; node <= 7; node++ {
			for _, change := range []func(uint8, int) (uint8, api.Errno){conf.Add, conf.Remove} {
				if next, e := change(uint8(s), node); e == api.OK && (!conf.Meets(uint8(s), next) || !conf.Meets(next, uint8(s)) || !conf.May(next)) {
					t.Error(s, node)
				}
			}
		}
	}
}
