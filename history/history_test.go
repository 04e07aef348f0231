package history_test

import (
	"math"
	"math/rand"
	"slices"
	"testing"

	"weir/api"
	"weir/history"
)

func put(tenant, rate, burst int) api.Command {
	return api.Command{Kind: api.CmdPut, Tenant: tenant, Rate: rate, Burst: burst}
}

func get(tenant int) api.Command { return api.Command{Kind: api.CmdGet, Tenant: tenant} }

func del(tenant int) api.Command { return api.Command{Kind: api.CmdDelete, Tenant: tenant} }

func call(x api.Command, from, to int, a api.Answer) api.Call {
	return api.Call{Command: x, From: from, To: to, Answer: a}
}

func errs(e api.Errno) api.Answer { return api.Answer{E: e} }

func told(rate, burst int) api.Answer { return api.Answer{Rate: rate, Burst: burst} }

func TestCheck(t *testing.T) { // P29.1 to P29.3
	many := func(n int) []api.Call {
		var l []api.Call
		for range n {
			l = append(l, call(get(1), 1, 0, api.Answer{}))
		}
		return l
	}
	for n, l := range [][]api.Call{many(13), {call(get(0), 1, 0, api.Answer{})}, {call(get(17), 1, 0, api.Answer{})}, {call(api.Command{Kind: api.CmdGrant, Tenant: 1}, 1, 0, api.Answer{})}, {call(api.Command{Tenant: 1}, 1, 0, api.Answer{})}, {call(get(1), 0, 0, api.Answer{})}, {call(get(1), 5, 5, api.Answer{})}, {call(get(1), 5, -1, api.Answer{})}, {call(get(1), 5, 4, api.Answer{})}} {
		order, ok, e := history.Fits(l)
		is, f := history.Try(l, nil)
		if history.Check(l) || order != nil || ok || e != api.ErrArg || is || f != api.ErrArg {
			t.Error(n)
		}
	}
	if !history.Check(nil) || !history.Check(many(12)) || !history.Check([]api.Call{call(put(16, -1, 5), 1, 2, errs(77)), call(del(1), math.MaxInt-1, math.MaxInt, api.Answer{})}) {
		t.Error("may be")
	}
}

func TestDo(t *testing.T) { // P29.1
	var l []api.Force
	for n, x := range []struct {
		c    api.Command
		a    api.Answer
		want []api.Force
	}{
		{get(3), errs(api.ErrTenant), nil}, {del(3), errs(api.ErrTenant), nil}, {put(3, 5, 6), told(5, 6), []api.Force{{Tenant: 3, Rate: 5, Burst: 6}}}, {put(1, 0, 0), told(0, 0), []api.Force{{Tenant: 1}, {Tenant: 3, Rate: 5, Burst: 6}}}, {get(3), told(5, 6), []api.Force{{Tenant: 1}, {Tenant: 3, Rate: 5, Burst: 6}}},
		{put(3, -1, 6), errs(api.ErrRate), []api.Force{{Tenant: 1}, {Tenant: 3, Rate: 5, Burst: 6}}}, {put(3, 5, api.MaxBurst+1), errs(api.ErrRate), []api.Force{{Tenant: 1}, {Tenant: 3, Rate: 5, Burst: 6}}}, {put(3, 7, 8), told(7, 8), []api.Force{{Tenant: 1}, {Tenant: 3, Rate: 7, Burst: 8}}},
		{put(16, api.MaxRate, api.MaxBurst), told(api.MaxRate, api.MaxBurst), []api.Force{{Tenant: 1}, {Tenant: 3, Rate: 7, Burst: 8}, {Tenant: 16, Rate: api.MaxRate, Burst: api.MaxBurst}}}, {del(3), api.Answer{}, []api.Force{{Tenant: 1}, {Tenant: 16, Rate: api.MaxRate, Burst: api.MaxBurst}}}, {get(3), errs(api.ErrTenant), []api.Force{{Tenant: 1}, {Tenant: 16, Rate: api.MaxRate, Burst: api.MaxBurst}}},
		{get(0), errs(api.ErrArg), []api.Force{{Tenant: 1}, {Tenant: 16, Rate: api.MaxRate, Burst: api.MaxBurst}}}, {api.Command{Kind: 9, Tenant: 1}, errs(api.ErrArg), []api.Force{{Tenant: 1}, {Tenant: 16, Rate: api.MaxRate, Burst: api.MaxBurst}}},
	} {
		was := slices.Clone(l)
		next, a := history.Do(l, x.c)
		if a != x.a || !slices.Equal(next, x.want) || !slices.Equal(l, was) {
			t.Error(n, next, a)
		}
		l = next
	}
	for n, l := range [][]api.Force{{{Tenant: 1, Tick: 1}}, {{Tenant: 0}}, {{Tenant: 17}}, {{Tenant: 2}, {Tenant: 2}}, {{Tenant: 2}, {Tenant: 1}}, {{Tenant: 1, Rate: -1}}, {{Tenant: 1, Burst: api.MaxBurst + 1}}} {
		if next, a := history.Do(l, put(1, 1, 1)); a != errs(api.ErrArg) || !slices.Equal(next, l) {
			t.Error(n, a)
		}
	}
}

func TestTry(t *testing.T) { // P29.2
	l := []api.Call{call(put(1, 5, 6), 1, 4, told(5, 6)), call(get(1), 2, 3, errs(api.ErrTenant)), call(del(1), 5, 0, api.Answer{}), call(get(1), 6, 8, told(5, 6))}
	for n, x := range []struct {
		order []int
		want  bool
	}{
		{[]int{1, 0, 3}, true}, {[]int{1, 0, 3, 2}, true}, {[]int{1, 0, 2, 3}, false}, {[]int{0, 1, 3}, false}, {[]int{1, 0}, false}, {[]int{1, 0, 3, 3}, false}, {[]int{1, 0, 3, 4}, false}, {[]int{-1, 1, 0, 3}, false}, {nil, false}, {[]int{3, 1, 0}, false}, {[]int{1, 2, 0, 3}, false}, {[]int{2, 1, 0, 3}, false},
	} {
		if got, e := history.Try(l, x.order); got != x.want || e != api.OK {
			t.Error(n, got, e)
		}
	}
	if got, e := history.Try(nil, nil); !got || e != api.OK {
		t.Error(got, e)
	}
	if got, _ := history.Try([]api.Call{call(get(1), 1, 0, api.Answer{})}, []int{0}); !got {
		t.Error("what was not answered may have been asked")
	}
	if got, _ := history.Try([]api.Call{call(put(1, 5, 6), 1, 2, api.Answer{Rate: 5, Burst: 6, Size: 1})}, []int{0}); got {
		t.Error("other fields are 0")
	}
}

func TestFits(t *testing.T) { // P29.3, P29.5
	p, none := put(1, 5, 6), errs(api.ErrTenant)
	for n, x := range []struct {
		l     []api.Call
		order []int
		ok    bool
	}{
		{nil, nil, true}, {[]api.Call{call(p, 1, 0, api.Answer{})}, nil, true},
		{[]api.Call{call(p, 1, 2, told(5, 6)), call(get(1), 3, 4, none)}, nil, false},
		{[]api.Call{call(p, 1, 4, told(5, 6)), call(get(1), 2, 3, none)}, []int{1, 0}, true},
		{[]api.Call{call(p, 1, 0, api.Answer{}), call(get(1), 2, 3, told(5, 6))}, []int{0, 1}, true},
		{[]api.Call{call(get(1), 2, 3, told(5, 6)), call(p, 1, 0, api.Answer{})}, []int{1, 0}, true},
		{[]api.Call{call(get(1), 2, 3, told(5, 6)), call(p, 4, 0, api.Answer{})}, nil, false},
		{[]api.Call{call(p, 1, 3, told(5, 6)), call(get(1), 3, 4, none)}, []int{1, 0}, true}, // the ends touch
		{[]api.Call{call(p, 1, 9, told(5, 6)), call(p, 1, 9, told(5, 6))}, []int{0, 1}, true},
		{[]api.Call{call(get(2), 1, 0, none), call(p, 1, 9, told(5, 6))}, []int{0, 1}, true},                                                  // place by place
		{[]api.Call{call(p, 1, 9, told(5, 6)), call(get(2), 1, 0, none)}, []int{0}, true},                                                     // the shorter one first
		{[]api.Call{call(p, 1, 9, told(5, 6)), call(put(1, 7, 8), 1, 9, told(7, 8)), call(get(1), 10, 11, told(5, 6))}, []int{1, 0, 2}, true}, // two rows of the same calls leave two tables
		{[]api.Call{call(p, 1, 9, told(5, 6)), call(put(1, 5, 8), 1, 9, told(5, 8)), call(get(1), 10, 11, told(5, 6))}, []int{1, 0, 2}, true},
		{[]api.Call{call(p, 1, 9, told(5, 6)), call(put(1, 7, 6), 1, 9, told(7, 6)), call(get(1), 10, 11, told(5, 6))}, []int{1, 0, 2}, true},
		{[]api.Call{call(p, 1, 2, told(5, 7))}, nil, false}, {[]api.Call{call(put(1, -5, 6), 1, 2, errs(api.ErrRate))}, []int{0}, true}, {[]api.Call{call(del(1), 1, 2, api.Answer{})}, nil, false},
	} {
		order, ok, e := history.Fits(x.l)
		if !slices.Equal(order, x.order) || ok != x.ok || e != api.OK {
			t.Error(n, order, ok, e)
		}
	}
	var l []api.Call
	for k := range api.MaxCalls {
		l = append(l, call(put(1+k%4, k, k), 1, 99, told(k, k)))
	}
	l[11] = call(get(1), 1, 99, told(77, 77))
	if order, ok, e := history.Fits(l); order != nil || ok || e != api.OK {
		t.Error(order, ok, e)
	}
}

// first is the first order that fits, by going through all of them.
func first(l []api.Call, row []int) ([]int, bool) {
	if ok, _ := history.Try(l, row); ok {
		return row, true
	}
	for k := range l {
		if !slices.Contains(row, k) {
			if order, ok := first(l, append(slices.Clone(row), k)); ok {
				return order, true
			}
		}
	}
	return nil, false
}

func TestFitsAll(t *testing.T) { // P29.4, P29.5
	r := rand.New(rand.NewSource(1))
	fit := 0
	for range 3000 {
		var l []api.Call
		for range r.Intn(6) {
			x := []api.Command{put(1+r.Intn(2), r.Intn(2), r.Intn(2)), get(1 + r.Intn(2)), del(1 + r.Intn(2)), put(1, -1, 0)}[r.Intn(4)]
			c := call(x, 1+r.Intn(9), 0, []api.Answer{{}, told(1, 0), told(0, 1), told(1, 1), errs(api.ErrTenant), errs(api.ErrRate)}[r.Intn(6)])
			if r.Intn(5) > 0 {
				c.To = c.From + 1 + r.Intn(6)
			}
			if x.Kind == api.CmdPut && r.Intn(4) > 0 {
				c.Answer = told(x.Rate, x.Burst)
			}
			l = append(l, c)
		}
		want, is := first(l, nil)
		order, ok, e := history.Fits(l)
		if ok != is || e != api.OK || !slices.Equal(order, want) {
			t.Fatal(l, order, ok, want, is)
		}
		if ok {
			fit++
		}
	}
	if fit < 300 {
		t.Error(fit)
	}
	for range 500 { // one behind the other
		var l []api.Call
		var table []api.Force
		right := true
		for k := range r.Intn(9) {
			x := []api.Command{put(1+r.Intn(2), r.Intn(2), r.Intn(2)), get(1 + r.Intn(2)), del(1 + r.Intn(2))}[r.Intn(3)]
			var a api.Answer
			table, a = history.Do(table, x)
			if r.Intn(12) == 0 {
				right = right && a == errs(api.ErrTenant)
				a = errs(api.ErrTenant)
			}
			l = append(l, call(x, 10*k+1, 10*k+5, a))
		}
		if _, ok, _ := history.Fits(l); ok != right {
			t.Fatal(l, ok)
		}
	}
}
