package fair_test

import (
	"math/rand"
	"reflect"
	"slices"
	"testing"

	"weir/api"
	"weir/fair"
	"weir/virtual"
)

func heads(sizes ...int) []api.Head {
	var l []api.Head
	for _, n := range sizes {
		l = append(l, api.Head{Size: n, Weight: 99})
	}
	return l
}

func begin(t *testing.T, weights ...int) *fair.Fair {
	t.Helper()
	f, e := fair.New(weights)
	if e != api.OK {
		t.Fatal(e)
	}
	return f
}

// picks fails unless this is served.
func picks(t *testing.T, f *fair.Fair, want int, sizes ...int) {
	t.Helper()
	if k, ok := f.Pick(heads(sizes...)); k != max(want, 0) || ok != (want >= 0) {
		t.Errorf("%v: %d %v; want %d", sizes, k, ok, want)
	}
}

// stands fails unless the time is this: V, then starts and finishes.
func stands(t *testing.T, f *fair.Fair, v int, tags ...int) {
	t.Helper()
	want := api.Virtual{V: v}
	for k := 0; k < len(tags); k += 2 {
		want.Flows = append(want.Flows, api.Tags{Start: tags[k], Finish: tags[k+1]})
	}
	if got := f.State(); !reflect.DeepEqual(got, want) {
		t.Errorf("%v; want %v", got, want)
	}
}

func TestNew(t *testing.T) { // P26.1
	for _, w := range [][]int{nil, make([]int, 9), {0}, {17}, {1, -1}, {1, 1, 1, 1, 1, 1, 1, 1, 1}} {
		if f, e := fair.New(w); f != nil || e != api.ErrArg {
			t.Error(w, e)
		}
	}
	stands(t, begin(t, 1, 16, 3), 0, 0, 0, 0, 0, 0, 0)
	if _, e := fair.New([]int{1, 1, 1, 1, 1, 1, 1, 16}); e != api.OK {
		t.Error(e)
	}
	var none *fair.Fair
	if k, ok := none.Pick(nil); k != 0 || ok || none.State().Flows != nil || none.Copy() != nil {
		t.Error("nil")
	}
}

func TestPick(t *testing.T) { // P26.1
	const s = api.Scale
	f := begin(t, 1, 1) // a byte takes 2 * s of a flow's time, s of the scheduler's
	picks(t, f, -1, 0, 0)
	stands(t, f, 0, 0, 0, 0, 0)
	picks(t, f, 0, 10, 10)
	stands(t, f, 10*s, 0, 20*s, 0, 20*s)
	for _, l := range [][]int{{10}, {10, 10, 10}, {-1, 10}, {10, 1501}, {}} {
		picks(t, f, -1, l...)
		stands(t, f, 10*s, 0, 20*s, 0, 20*s)
	}
	picks(t, f, 1, 10, 10) // 0 goes on from its finish
	stands(t, f, 20*s, 20*s, 40*s, 0, 20*s)
	picks(t, f, 0, 10, 0) // 1 sleeps
	stands(t, f, 30*s, 20*s, 40*s, 0, 20*s)
	picks(t, f, 1, 0, 5) // 0 sleeps, 1 wakes
	stands(t, f, 35*s, 20*s, 40*s, 30*s, 40*s)
	picks(t, f, -1, 0, 0)
	stands(t, f, 35*s, 20*s, 40*s, 30*s, 40*s)
	picks(t, f, 0, 4, 4) // both wake, at their finish, which is above V
	stands(t, f, 44*s, 40*s, 48*s, 40*s, 48*s)
}

func TestHeadChanges(t *testing.T) { // P26.1
	const s = api.Scale
	f := begin(t, 1, 1)
	picks(t, f, 0, 10, 30)
	stands(t, f, 10*s, 0, 20*s, 0, 60*s)
	c := f.Copy()
	picks(t, f, 1, 10, 5) // another head that was not served: its finish is its start, it wakes anew
	stands(t, f, 15*s, 20*s, 40*s, 10*s, 20*s)
	picks(t, c, 0, 10, 0) // it is ready no more
	stands(t, c, 30*s, 20*s, 40*s, 0, 0)
	picks(t, c, 1, 0, 7)
	stands(t, c, 37*s, 20*s, 40*s, 30*s, 44*s)
	stands(t, f, 15*s, 20*s, 40*s, 10*s, 20*s)
}

func TestNoneReadySleeps(t *testing.T) { // P26.1
	const s = api.Scale
	f := begin(t, 1, 1)
	picks(t, f, 0, 10, 30)
	picks(t, f, -1, 0, 0)
	stands(t, f, 10*s, 0, 20*s, 0, 0)
	picks(t, f, 1, 0, 30)
	stands(t, f, 40*s, 0, 20*s, 10*s, 70*s)
}

func TestRebased(t *testing.T) { // P26.1
	f := begin(t, 2, 1)
	const late = 1 << 50
	for n := 0; f.State().V < late-1500*api.Scale; n++ {
		f.Pick(heads(1500, 1500))
		if n > 2000000 {
			t.Fatal("never late")
		}
	}
	f.Pick(heads(1500, 1500))
	f.Pick(heads(1500, 1500))
	f.Pick(heads(1500, 1500))
	if v := f.State(); v.V > late || v.V < 1<<40 || !virtual.Check(v) {
		t.Error(v)
	}
	counts := [2]int{}
	for range 300 {
		k, _ := f.Pick(heads(1500, 1500))
		counts[k]++
	}
	if counts != [2]int{200, 100} {
		t.Error(counts)
	}
}

func TestRun(t *testing.T) { // P26.2
	many := make([]int, 1001)
	for k := range many {
		many[k] = 1
	}
	for n, x := range []struct {
		weights []int
		queues  [][]int
		want    []int
	}{
		{[]int{1, 1}, [][]int{{10, 10}, {10, 10}}, []int{0, 1, 0, 1}}, {[]int{3, 1}, [][]int{{10, 10, 10}, {10, 10}}, []int{0, 1, 0, 0, 1}}, {[]int{1}, nil, nil}, {[]int{1}, [][]int{nil}, nil}, {[]int{1, 1}, [][]int{nil, {1500}}, []int{1}},
		{nil, nil, nil}, {[]int{17}, [][]int{{1}}, nil}, {[]int{1}, [][]int{{1}, {1}}, nil}, {[]int{1}, [][]int{{0}}, nil}, {[]int{1}, [][]int{{1501}}, nil}, {[]int{1}, [][]int{many}, nil}, {[]int{1, 1}, [][]int{many[:500], many[:501]}, nil},
	} {
		if got := fair.Run(x.weights, x.queues); !slices.Equal(got, x.want) {
			t.Error(n, got)
		}
	}
	for _, q := range [][]int{{5, 0}, {5, 1501}, {5, -1}} {
		if got := fair.Run([]int{1}, [][]int{q}); got != nil {
			t.Error(q, got)
		}
	}
	queues := [][]int{{1, 2}, {3}}
	fair.Run([]int{1, 1}, queues)
	if !reflect.DeepEqual(queues, [][]int{{1, 2}, {3}}) {
		t.Error("changed", queues)
	}
	if got := fair.Run([]int{1, 1}, [][]int{many[:500], many[:500]}); len(got) != 1000 {
		t.Error(len(got))
	}
}

// TestFair holds all stretches of random picks, throughout which a flow is ready, against the bound.
func TestFair(t *testing.T) { // P26.3, P26.4
	r := rand.New(rand.NewSource(1))
	for run := range 150 {
		n := 1 + r.Intn(5)
		var weights []int
		all := 0
		for range n {
			weights = append(weights, 1+r.Intn(16))
			all += weights[len(weights)-1]
		}
		f := begin(t, weights...)
		sizes := make([]int, n)
		greatest := make([]int, n)
		calm := r.Intn(2) == 0
		type pick struct {
			flow, size int
			ready      []bool
		}
		var l []pick
		for range 120 {
			var ready []bool
			for k := range sizes {
				if sizes[k] == 0 && (calm || r.Intn(3) == 0) {
					sizes[k] = 1 + r.Intn([]int{5, 60, 1500}[run%3])
				}
				greatest[k] = max(greatest[k], sizes[k])
				ready = append(ready, sizes[k] > 0)
			}
			k, ok := f.Pick(heads(sizes...))
			if ok != slices.Contains(ready, true) {
				t.Fatal("one is ready, none is served")
			}
			if !ok {
				continue
			}
			if !ready[k] {
				t.Fatal("not ready")
			}
			l = append(l, pick{k, sizes[k], ready})
			sizes[k] = 0
		}
		lmax := slices.Max(greatest)
		for i := range weights {
			for from := range l {
				mine, sum := 0, 0
				for _, p := range l[from:] {
					if !p.ready[i] {
						break
					}
					sum += p.size
					if p.flow == i {
						mine += p.size
					}
					if mine*all < weights[i]*sum-(2*greatest[i]*all+(lmax-2*greatest[i])*weights[i]) {
						t.Fatal(run, i, mine, sum)
					}
				}
			}
		}
	}
	f := begin(t, 4, 4, 4)
	for n := range 30 {
		picks(t, f, n%3, 7, 7, 7)
	}
}
