package rows_test

import (
	"math"
	"math/rand"
	"reflect"
	"slices"
	"testing"

	"weir/api"
	"weir/rows"
)

// terms makes entries of these terms.
func terms(l ...int) []api.Entry {
	var out []api.Entry
	for k, t := range l {
		out = append(out, api.Entry{Term: t, Kind: api.EntryCommand, Stamp: k, Data: []byte{byte(t), 1}})
	}
	return out
}

func log(base, term int, l ...int) api.Rows {
	return api.Rows{Base: base, Term: term, Entries: terms(l...)}
}

// termsOf are the terms of the entries.
func termsOf(r api.Rows) []int {
	var l []int
	for _, x := range r.Entries {
		l = append(l, x.Term)
	}
	return l
}

func TestCheck(t *testing.T) { // P9.1
	one := func(x api.Entry) api.Rows { return api.Rows{Entries: []api.Entry{x}} }
	full := make([]int, api.MaxEntries)
	for k := range full {
		full[k] = 1
	}
	bad := []api.Rows{
		{Base: -1}, {Base: -1, Term: 1}, {Term: 1}, {Term: -1}, {Base: 1}, {Base: 1, Term: -1}, {Base: 1<<40 + 1, Term: 1}, {Base: math.MaxInt, Term: 1}, log(1<<40, 1, 1), log(0, 0, append(full, 1)...),
		log(0, 0, 0), log(0, 0, 1, 2, 1), log(3, 2, 1), log(0, 0, -1),
		one(api.Entry{Term: 1, Kind: -1}), one(api.Entry{Term: 1, Kind: 3}), one(api.Entry{Term: 1, Kind: api.EntrySet}), one(api.Entry{Term: 1, Stamp: -1}), one(api.Entry{Term: 1, Set: 1}),
		one(api.Entry{Term: 1, Kind: api.EntryCommand, Set: 1}), one(api.Entry{Term: 1, Data: []byte{1}}), one(api.Entry{Term: 1, Kind: api.EntrySet, Set: 1, Data: []byte{1}}), one(api.Entry{Term: 1, Kind: api.EntryCommand, Data: make([]byte, api.MaxData+1)}),
	}
	for n, r := range bad {
		i, term := rows.Last(r)
		at, is := rows.Term(r, r.Base)
		x, has := rows.Entry(r, r.Base+1)
		from, e := rows.From(r, 1, 1)
		add, f := rows.Add(r, make([]api.Entry, 5000)...)
		out, same, ok, g := rows.Put(r, -1, -1, make([]api.Entry, 17))
		cut, h := rows.Cut(r, -7)
		if rows.Check(r) != api.ErrRows || i != 0 || term != 0 || at != 0 || is || has || !reflect.DeepEqual(x, api.Entry{}) || from != nil || e != api.ErrRows || f != api.ErrRows || g != api.ErrRows || h != api.ErrRows || same != 0 || ok || rows.Newer(r, 1<<40, 1<<40) || rows.Same(r, r) || rows.Same(r, log(0, 0)) || rows.Same(log(0, 0), r) {
			t.Error(n)
		}
		for _, z := range []api.Rows{add, out, cut} {
			if !reflect.DeepEqual(z, api.Rows{}) {
				t.Error(n, z)
			}
		}
	}
	for n, r := range []api.Rows{{}, {Entries: []api.Entry{}}, {Base: 1 << 40, Term: 1}, log(1<<40-1, 1, 1), log(0, 0, full...), log(3, 2, 2, 2, 9), one(api.Entry{Term: 1, Kind: api.EntrySet, Set: 255}), one(api.Entry{Term: 1, Kind: api.EntryCommand, Data: make([]byte, api.MaxData)}), one(api.Entry{Term: math.MaxInt, Stamp: math.MaxInt}), one(api.Entry{Term: 1, Data: []byte{}})} {
		if rows.Check(r) != api.OK {
			t.Error(n)
		}
	}
}

func TestLook(t *testing.T) { // P9.1
	r := log(5, 2, 2, 3)
	if i, term := rows.Last(r); i != 7 || term != 3 {
		t.Error(i, term)
	}
	if i, term := rows.Last(log(5, 2)); i != 5 || term != 2 {
		t.Error(i, term)
	}
	for index, want := range map[int]int{4: 0, 5: 2, 6: 2, 7: 3, 8: 0, -1: 0} {
		if term, is := rows.Term(r, index); term != want || is != (want > 0) {
			t.Error(index, term, is)
		}
		x, has := rows.Entry(r, index)
		if has != (index == 6 || index == 7) || has && !reflect.DeepEqual(x, r.Entries[index-6]) || !has && !reflect.DeepEqual(x, api.Entry{}) {
			t.Error(index, x, has)
		}
	}
	if term, is := rows.Term(api.Rows{}, 0); term != 0 || !is {
		t.Error("at 0")
	}
}

func TestFrom(t *testing.T) { // P9.2
	r := log(5, 1, 1, 1, 2, 2, 2, 3, 3, 3, 3, 3, 3, 3, 3, 3, 3, 3, 3, 3, 9, 9)
	for _, x := range []struct{ index, most, n int }{{6, 3, 3}, {6, 100, 16}, {6, math.MaxInt, 16}, {6, 0, 0}, {6, -5, 0}, {25, 4, 1}, {26, 4, 0}, {5, 4, -1}, {27, 4, -1}, {math.MaxInt, 1, -1}, {math.MinInt, 1, -1}} {
		l, e := rows.From(r, x.index, x.most)
		if x.n < 0 {
			if e != api.ErrNone || l != nil {
				t.Error(x, e)
			}
			continue
		}
		if e != api.OK || len(l) != x.n || x.n > 0 && !reflect.DeepEqual(l, r.Entries[x.index-6:x.index-6+x.n]) {
			t.Error(x, l, e)
		}
		_ = append(l, api.Entry{Term: 77})
	}
	if r.Entries[3].Term != 2 {
		t.Error("changed")
	}
}

func TestAdd(t *testing.T) { // P9.2
	r, e := rows.Add(log(5, 2, 2), terms(3, 3)...)
	if e != api.OK || !slices.Equal(termsOf(r), []int{2, 3, 3}) || r.Base != 5 || r.Term != 2 {
		t.Error(r, e)
	}
	if r, e := rows.Add(r); e != api.OK || len(r.Entries) != 3 {
		t.Error(r, e)
	}
	full := make([]int, api.MaxEntries-1)
	for k := range full {
		full[k] = 5
	}
	f := log(0, 0, full...)
	for _, x := range []struct {
		l    []int
		want api.Errno
	}{{[]int{5}, api.OK}, {[]int{5, 5}, api.ErrLong}, {[]int{1, 1}, api.ErrLong}, {[]int{4}, api.ErrRows}} {
		if out, e := rows.Add(f, terms(x.l...)...); e != x.want || e != api.OK && !reflect.DeepEqual(out, api.Rows{}) {
			t.Error(x, e)
		}
	}
	if _, e := rows.Add(log(1<<40, 1), terms(1)...); e != api.ErrRows {
		t.Error(e)
	}
}

func TestPut(t *testing.T) { // P9.3
	for n, x := range []struct {
		r           api.Rows
		index, term int
		l           []int
		want        []int
		same        int
		ok          bool
		e           api.Errno
	}{
		{log(0, 0, 1, 1, 2), 2, 1, []int{3}, []int{1, 1, 3}, 3, true, 0},
		{log(0, 0, 1, 1, 2), 3, 1, nil, []int{1, 1, 2}, 2, false, 0},
		{log(0, 0, 1, 1, 2), 5, 2, nil, []int{1, 1, 2}, 3, false, 0},
		{log(0, 0, 1, 1, 2), 4, 2, []int{9}, []int{1, 1, 2}, 3, false, 0},
		{log(0, 0, 1, 1, 2), 1, 1, []int{1}, []int{1, 1, 2}, 2, true, 0},
		{log(0, 0, 1, 1, 2), 0, 0, nil, []int{1, 1, 2}, 0, true, 0},
		{log(0, 0, 1, 1, 2), 3, 2, []int{2, 4}, []int{1, 1, 2, 2, 4}, 5, true, 0},
		{log(0, 0, 1, 1, 2), 0, 0, []int{1, 2}, []int{1, 2}, 2, true, 0},
		{log(0, 0, 1), 1, 2, []int{2}, []int{1}, 0, false, 0},
		{log(5, 2, 2, 3), 5, 1, []int{1}, []int{2, 3}, 5, false, 0},
		{log(5, 2, 2, 3), 6, 1, []int{1}, []int{2, 3}, 5, false, 0},
		{log(5, 2, 2, 3), 7, 2, []int{2}, []int{2, 3}, 6, false, 0},
		{log(5, 2, 2, 3), 2, 1, []int{1, 1}, []int{2, 3}, 5, false, 0},
		{log(5, 2, 2, 3), 2, 1, []int{1, 1, 1}, []int{2, 3}, 5, true, 0},
		{log(5, 2, 2, 3), 3, 1, []int{1, 1, 2, 4}, []int{2, 4}, 7, true, 0},
		{log(5, 2, 2, 3), 0, 0, []int{1, 1, 1, 1, 1, 1}, nil, 0, false, api.ErrRows},
		{log(5, 2, 2, 3), 0, 0, nil, []int{2, 3}, 5, false, 0},
		{log(0, 0, 1, 1, 2), 2, 1, make([]int, 17), nil, 0, false, api.ErrArg},
		{log(0, 0, 1, 1, 2), -1, 1, nil, nil, 0, false, api.ErrArg},
		{log(0, 0, 1, 1, 2), 1, 0, nil, nil, 0, false, api.ErrArg},
		{log(0, 0, 1, 1, 2), 0, 1, nil, nil, 0, false, api.ErrArg},
		{log(0, 0, 1, 1, 2), 2, 2, []int{1}, nil, 0, false, api.ErrArg},
		{log(0, 0, 1, 1, 2), math.MaxInt, 2, []int{3}, nil, 0, false, api.ErrArg},
	} {
		out, same, ok, e := rows.Put(x.r, x.index, x.term, terms(x.l...))
		if !slices.Equal(termsOf(out), x.want) || same != x.same || ok != x.ok || e != x.e || e == api.OK && (out.Base != x.r.Base || out.Term != x.r.Term) || e != api.OK && !reflect.DeepEqual(out, api.Rows{}) {
			t.Error(n, termsOf(out), same, ok, e)
		}
	}
}

func TestPutFull(t *testing.T) { // P9.3
	full := make([]int, api.MaxEntries)
	for k := range full {
		full[k] = 5
	}
	r := log(0, 0, full...)
	if _, _, _, e := rows.Put(r, api.MaxEntries, 5, terms(5)); e != api.ErrLong {
		t.Error(e)
	}
	if out, same, ok, e := rows.Put(r, api.MaxEntries-1, 5, terms(6)); e != api.OK || !ok || same != api.MaxEntries || out.Entries[api.MaxEntries-1].Term != 6 {
		t.Error(e)
	}
	if out, same, ok, e := rows.Put(log(0, 0, full[:16]...), 0, 0, terms(full[:16]...)); e != api.OK || !ok || same != 16 || len(out.Entries) != 16 {
		t.Error(e)
	}
}

func TestCutNewerSame(t *testing.T) { // P9.4, P9.6
	r := log(5, 2, 2, 3, 3)
	for index := 4; index <= 9; index++ {
		out, e := rows.Cut(r, index)
		if index == 4 || index == 9 {
			if e != api.ErrNone || !reflect.DeepEqual(out, api.Rows{}) {
				t.Error(index, e)
			}
			continue
		}
		term, _ := rows.Term(r, index)
		if e != api.OK || out.Base != index || out.Term != term || !slices.Equal(termsOf(out), termsOf(r)[index-5:]) {
			t.Error(index, out, e)
		}
		for k := index + 1; k <= 9; k++ {
			a, e := rows.From(r, k, 9)
			b, f := rows.From(out, k, 9)
			if e != api.OK || f != api.OK || !reflect.DeepEqual(a, b) {
				t.Error(index, k)
			}
		}
	}
	for _, x := range []struct {
		index, term int
		want        bool
	}{{8, 3, true}, {7, 3, false}, {9, 3, true}, {99, 2, false}, {0, 4, true}, {-1, 4, true}} {
		if rows.Newer(r, x.index, x.term) != x.want {
			t.Error(x)
		}
	}
	if !rows.Same(r, log(5, 2, 2, 3, 3)) || rows.Same(r, log(5, 2, 2, 3)) || rows.Same(log(5, 2, 2, 3), r) || rows.Same(r, log(5, 1, 2, 3, 3)) || rows.Same(r, log(4, 2, 2, 3, 3)) || !rows.Same(api.Rows{}, api.Rows{Entries: []api.Entry{}}) {
		t.Error("same")
	}
	for k := range 4 {
		o := log(5, 2, 2, 3, 3)
		x := &o.Entries[1]
		switch k {
		case 0:
			x.Stamp = 99
		case 1:
			x.Data[1] = 9
		case 2:
			*x = api.Entry{Term: 3, Stamp: 1}
		case 3:
			*x = api.Entry{Term: 3, Stamp: 1, Kind: api.EntrySet, Set: 1}
		}
		if rows.Same(r, o) {
			t.Error(k)
		}
	}
}

func TestSameFields(t *testing.T) { // P9.4
	one := func(x api.Entry) api.Rows { return api.Rows{Entries: []api.Entry{x}} }
	all := []api.Entry{{Term: 1}, {Term: 2}, {Term: 1, Stamp: 1}, {Term: 1, Kind: api.EntryCommand}, {Term: 1, Kind: api.EntryCommand, Data: []byte{1}}, {Term: 1, Kind: api.EntrySet, Set: 1}, {Term: 1, Kind: api.EntrySet, Set: 2}}
	for i, a := range all {
		for j, b := range all {
			if rows.Same(one(a), one(b)) != (i == j) {
				t.Error(i, j)
			}
		}
	}
}

func TestNothingShared(t *testing.T) {
	room := make([]api.Entry, 3, 10)
	copy(room, terms(1, 1, 2))
	r := api.Rows{Entries: room}
	l := terms(3)
	a, _ := rows.Add(r, l...)
	b, _, _, _ := rows.Put(r, 2, 1, l)
	c, _, _, _ := rows.Put(r, 1, 1, terms(1))
	d, _, _, _ := rows.Put(r, 9, 1, nil)
	f, _ := rows.Cut(r, 1)
	g, _ := rows.From(r, 2, 2)
	h, _ := rows.Entry(r, 2)
	h.Data[0] = 99
	for _, k := range [][]api.Entry{a.Entries, b.Entries, c.Entries, d.Entries, f.Entries, g} {
		for n := range k {
			k[n].Data[0] = 99
			k[n].Term = 99
		}
	}
	if !rows.Same(r, log(0, 0, 1, 1, 2)) || l[0].Term != 3 || l[0].Data[0] != 3 || room[:4][3].Term != 0 {
		t.Error("shared")
	}
}

// TestMatching puts random pieces of random leaders' rows, and looks that rows of one term at an index are the same up to there.
func TestMatching(t *testing.T) { // P9.5
	r := rand.New(rand.NewSource(1))
	for range 200 {
		all := []api.Rows{{}, {}, {}}
		term := 1
		for range 40 {
			k := r.Intn(3)
			if r.Intn(3) == 0 {
				term++
				var e api.Errno
				all[k], e = rows.Add(all[k], terms(term, term)[:1+r.Intn(2)]...)
				if e != api.OK {
					t.Fatal(e)
				}
				continue
			}
			from := all[r.Intn(3)]
			prev := r.Intn(len(from.Entries) + 1)
			at, _ := rows.Term(from, prev)
			l, _ := rows.From(from, prev+1, r.Intn(5))
			out, same, ok, e := rows.Put(all[k], prev, at, l)
			if e == api.ErrRows {
				continue
			}
			if e != api.OK || ok && same != prev+len(l) || !ok && !rows.Same(out, all[k]) {
				t.Fatal(same, ok, e)
			}
			if again, _, _, _ := rows.Put(out, prev, at, l); !rows.Same(again, out) {
				t.Fatal("again")
			}
			all[k] = out
			for i := range all {
				for n := min(len(all[i].Entries), len(out.Entries)); n > 0; n-- {
					if all[i].Entries[n-1].Term == out.Entries[n-1].Term {
						if !reflect.DeepEqual(all[i].Entries[:n], out.Entries[:n]) {
							t.Fatal("not the same")
						}
						break
					}
				}
			}
		}
	}
}
