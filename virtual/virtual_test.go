package virtual_test

import (
	"math"
	"math/rand"
	"reflect"
	"testing"

	"weir/api"
	"weir/virtual"
)

const most = 1 << 60

func vt(v int, tags ...int) api.Virtual {
	x := api.Virtual{V: v}
	for k := 0; k < len(tags); k += 2 {
		x.Flows = append(x.Flows, api.Tags{Start: tags[k], Finish: tags[k+1]})
	}
	return x
}

func same(t *testing.T, what any, got, want api.Virtual) {
	t.Helper()
	if !reflect.DeepEqual(got, want) {
		t.Errorf("%v: %v; want %v", what, got, want)
	}
}

var rotten = []api.Virtual{vt(-1, 0, 0), vt(most+1, 0, 0), vt(0, -1, 0), vt(0, 2, 1), vt(0, 0, most+1), vt(0, 1, 1, 5, 4), {Flows: make([]api.Tags, 9)}, vt(math.MinInt, math.MinInt, math.MaxInt)}

func TestNewCheckCost(t *testing.T) { // P25.1
	for _, n := range []int{0, -1, 9} {
		if v, e := virtual.New(n); e != api.ErrArg || v.Flows != nil {
			t.Error(n, e)
		}
	}
	for _, n := range []int{1, 8} {
		if v, e := virtual.New(n); e != api.OK || v.V != 0 || len(v.Flows) != n || v.Flows[n-1] != (api.Tags{}) || !virtual.Check(v) {
			t.Error(n, e)
		}
	}
	for n, v := range rotten {
		_, a := virtual.Wake(v, 0, 5, 1, 1)
		_, b := virtual.Next(v, 0, 5, 1, 1)
		_, c := virtual.Serve(v, 5)
		p, k, ok := virtual.Pick(v, make([]bool, len(v.Flows)))
		if virtual.Check(v) || a != api.ErrArg || b != api.ErrArg || c != api.ErrArg || p.Flows != nil || k != 0 || ok {
			t.Error(n)
		}
		same(t, "rebase", virtual.Rebase(v), v)
	}
	for n, v := range []api.Virtual{{}, vt(most, most, most), vt(5, 0, 0, 9, 9)} {
		if !virtual.Check(v) {
			t.Error(n)
		}
	}
	for _, x := range []struct{ size, weight, all, want int }{
		{100, 1, 4, 100 * 4 * api.Scale}, {100, 3, 4, 100 * 4 * api.Scale / 3}, {1500, 16, 128, 1500 * 128 * api.Scale / 16}, {1500, 1, 128, 1500 * 128 * api.Scale}, {1, 7, 7, api.Scale},
		{0, 1, 1, 0}, {1501, 1, 1, 0}, {5, 0, 1, 0}, {5, 17, 17, 0}, {5, 2, 1, 0}, {5, 1, 129, 0}, {-5, -1, -1, 0}, {math.MaxInt, 1, 1, 0},
	} {
		if got := virtual.Cost(x.size, x.weight, x.all); got != x.want {
			t.Error(x, got)
		}
	}
}

func TestWakeNext(t *testing.T) { // P25.2
	c := virtual.Cost(10, 2, 4)
	v := vt(100, 5, 50, 60, 200)
	for n, x := range []struct {
		k            int
		wake, next   api.Virtual
		size, weight int
		e            api.Errno
	}{
		{0, vt(100, 100, 100+c, 60, 200), vt(100, 50, 50+c, 60, 200), 10, 2, 0}, {1, vt(100, 5, 50, 200, 200+c), vt(100, 5, 50, 200, 200+c), 10, 2, 0},
		{-1, api.Virtual{}, api.Virtual{}, 10, 2, api.ErrArg}, {2, api.Virtual{}, api.Virtual{}, 10, 2, api.ErrArg}, {0, api.Virtual{}, api.Virtual{}, 0, 2, api.ErrArg}, {0, api.Virtual{}, api.Virtual{}, 10, 5, api.ErrArg},
	} {
		a, e := virtual.Wake(v, x.k, x.size, x.weight, 4)
		b, f := virtual.Next(v, x.k, x.size, x.weight, 4)
		if e != x.e || f != x.e {
			t.Error(n, e, f)
		}
		same(t, n, a, x.wake)
		same(t, n, b, x.next)
	}
	same(t, "handed in", v, vt(100, 5, 50, 60, 200))
	top := vt(most, 0, most-c)
	if _, e := virtual.Wake(top, 0, 10, 2, 4); e != api.ErrArg {
		t.Error(e)
	}
	if w, e := virtual.Next(top, 0, 10, 2, 4); e != api.OK || w.Flows[0].Finish != most {
		t.Error(e)
	}
	if w, e := virtual.Next(vt(0, 0, most-c+1), 0, 10, 2, 4); e != api.ErrArg || w.Flows != nil {
		t.Error(e)
	}
}

func TestPickServe(t *testing.T) { // P25.3
	v := vt(100, 150, 500, 90, 700, 100, 600, 0, 600)
	for n, x := range []struct {
		ready   []bool
		v, want int
		ok      bool
	}{
		{[]bool{true, true, true, true}, 100, 2, true}, {[]bool{true, true, false, true}, 100, 3, true}, {[]bool{true, false, false, false}, 150, 0, true}, {[]bool{true, true, false, false}, 100, 1, true},
		{[]bool{false, false, false, false}, 0, 0, false}, {[]bool{true, true, true}, 0, 0, false}, {[]bool{true, true, true, true, true}, 0, 0, false}, {nil, 0, 0, false},
	} {
		w, k, ok := virtual.Pick(v, x.ready)
		want := api.Virtual{}
		if x.ok {
			want = vt(x.v, 150, 500, 90, 700, 100, 600, 0, 600)
		}
		same(t, n, w, want)
		if k != x.want || ok != x.ok {
			t.Error(n, k, ok)
		}
	}
	same(t, "handed in", v, vt(100, 150, 500, 90, 700, 100, 600, 0, 600))
	if w, k, ok := virtual.Pick(api.Virtual{}, nil); ok || k != 0 || w.V != 0 {
		t.Error("no flows")
	}
	w, e := virtual.Serve(vt(100, 1, 2), 7)
	same(t, "serve", w, vt(100+7*api.Scale, 1, 2))
	if e != api.OK {
		t.Error(e)
	}
	for n, x := range []struct {
		v, size int
		want    api.Errno
	}{{0, 0, api.ErrArg}, {0, -1, api.ErrArg}, {0, 1501, api.ErrArg}, {most - api.Scale, 1, 0}, {most - api.Scale + 1, 1, api.ErrArg}, {most, 1500, api.ErrArg}} {
		if w, e := virtual.Serve(vt(x.v, 0, 0), x.size); e != x.want || e != api.OK && w.Flows != nil {
			t.Error(n, e)
		}
	}
}

func TestRebase(t *testing.T) { // P25.4, P25.5
	const late, far = 1 << 50, 1 << 40
	v := vt(late, 0, 5, late, late+9)
	same(t, "not late", virtual.Rebase(v), v)
	v = vt(late+1, 0, 5, late+1, late+9, late+1-far, late+2-far, late-far, late+9)
	same(t, "late", virtual.Rebase(v), vt(far, 0, 0, far, far+8, 0, 1, 0, far+8))
	if v.V != late+1 || v.Flows[1].Start != late+1 {
		t.Error("changed")
	}
	r := rand.New(rand.NewSource(1))
	for range 500 {
		v := vt(late+r.Intn(1<<20), 0, 0, 0, 0)
		for k := range v.Flows {
			v.Flows[k].Start = v.V - r.Intn(1<<41)
			v.Flows[k].Finish = v.Flows[k].Start + r.Intn(1<<41)
		}
		a, e := virtual.Wake(virtual.Rebase(v), 0, 10, 2, 4)
		b, f := virtual.Wake(v, 0, 10, 2, 4)
		if e != api.OK || f != api.OK || a.V-a.Flows[0].Start != b.V-b.Flows[0].Start {
			t.Fatal("begins elsewhere")
		}
	}
	for size := 1; size < 1500; size += 37 {
		for weight := 1; weight <= 16; weight++ {
			if virtual.Cost(size, weight, 20)*weight != size*20*api.Scale {
				t.Fatal(size, weight)
			}
		}
	}
}

func TestNothingShared(t *testing.T) {
	v := vt(100, 1, 2, 3, 4)
	a, _ := virtual.Wake(v, 0, 10, 2, 4)
	b, _ := virtual.Next(v, 0, 10, 2, 4)
	c, _, _ := virtual.Pick(v, []bool{true, true})
	d, _ := virtual.Serve(v, 10)
	for _, w := range []api.Virtual{a, b, c, d, virtual.Rebase(v), virtual.Rebase(vt(-1, 0, 0))} {
		w.Flows[0] = api.Tags{Start: 9, Finish: 9}
	}
	same(t, "handed in", v, vt(100, 1, 2, 3, 4))
}

func TestEligible(t *testing.T) { // P25.6
	r := rand.New(rand.NewSource(1))
	for range 2000 {
		v := api.Virtual{V: r.Intn(50)}
		var ready []bool
		for range 1 + r.Intn(8) {
			s := r.Intn(90)
			v.Flows = append(v.Flows, api.Tags{Start: s, Finish: s + r.Intn(40)})
			ready = append(ready, r.Intn(3) > 0)
		}
		w, k, ok := virtual.Pick(v, ready)
		if !ok {
			continue
		}
		if !ready[k] || w.Flows[k].Start > w.V || w.V < v.V {
			t.Fatal(v, k)
		}
		for j, x := range w.Flows {
			if ready[j] && x.Start <= w.V && (x.Finish < w.Flows[k].Finish || x.Finish == w.Flows[k].Finish && j < k) {
				t.Fatal(v, k, j)
			}
		}
	}
}

func TestExamples(t *testing.T) { // P25.2, P25.3
	for _, x := range []struct{ a, b, first int }{{1, 1, 100}, {3, 1, 150}} {
		v, _ := virtual.New(2)
		w := [2]int{x.a, x.b}
		for k := range w {
			v, _ = virtual.Wake(v, k, 100, w[k], x.a+x.b)
		}
		n := 0
		for range 200 {
			var k int
			v, k, _ = virtual.Pick(v, []bool{true, true})
			v, _ = virtual.Serve(v, 100)
			v, _ = virtual.Next(v, k, 100, w[k], x.a+x.b)
			if k == 0 {
				n++
			}
		}
		if n != x.first {
			t.Error(x, n)
		}
	}
}
