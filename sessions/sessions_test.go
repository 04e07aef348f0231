package sessions_test

import (
	"math"
	"math/rand"
	"reflect"
	"testing"

	"weir/api"
	"weir/sessions"
)

func s(client, number int) api.Session {
	return api.Session{Client: client, Number: number, Answer: answer(client, number)}
}

func answer(client, number int) api.Answer {
	return api.Answer{E: api.ErrTenant, Rate: client, Burst: number, Lease: 3, Size: 4}
}

var rotten = [][]api.Session{
	{s(0, 1)}, {s(17, 1)}, {s(-1, 1)}, {s(1, 0)}, {s(1, -1)}, {s(2, 1), s(2, 1)}, {s(2, 1), s(1, 1)}, {s(math.MaxInt, 1)},
}

func TestCheckAndLast(t *testing.T) { // P15.1
	for n, l := range rotten {
		a, fresh, e := sessions.Ask(l, 1, 5)
		k, f := sessions.Keep(l, 1, 5, api.Answer{})
		if sessions.Check(l) || sessions.Last(l, 1) != 0 || a != (api.Answer{}) || fresh || e != api.ErrArg || k != nil || f != api.ErrArg {
			t.Error(n)
		}
	}
	l := []api.Session{s(1, 1), s(3, math.MaxInt), s(16, 2)}
	if !sessions.Check(nil) || !sessions.Check(l) {
		t.Error("may be")
	}
	for client, want := range map[int]int{1: 1, 2: 0, 3: math.MaxInt, 16: 2, 17: 0, 0: 0, -4: 0} {
		if got := sessions.Last(l, client); got != want {
			t.Error(client, got)
		}
	}
}

func TestAsk(t *testing.T) { // P15.2
	l := []api.Session{s(2, 5)}
	for n, x := range []struct {
		client, number int
		a              api.Answer
		fresh          bool
		e              api.Errno
	}{
		{2, 5, answer(2, 5), false, 0}, {2, 6, api.Answer{}, true, 0}, {2, 99, api.Answer{}, true, 0}, {2, 4, api.Answer{}, false, api.ErrStale}, {1, 1, api.Answer{}, true, 0}, {16, 1, api.Answer{}, true, 0},
		{2, 0, api.Answer{}, false, api.ErrArg}, {2, -1, api.Answer{}, false, api.ErrArg}, {0, 5, api.Answer{}, false, api.ErrArg}, {17, 5, api.Answer{}, false, api.ErrArg}, {math.MinInt, 5, api.Answer{}, false, api.ErrArg},
	} {
		if a, fresh, e := sessions.Ask(l, x.client, x.number); a != x.a || fresh != x.fresh || e != x.e {
			t.Error(n, a, fresh, e)
		}
	}
}

func TestKeep(t *testing.T) { // P15.3
	room := make([]api.Session, 2, 5)
	copy(room, []api.Session{s(2, 5), s(4, 5)})
	for n, x := range []struct {
		client, number int
		want           []api.Session
		e              api.Errno
	}{
		{1, 3, []api.Session{s(1, 3), s(2, 5), s(4, 5)}, 0}, {2, 6, []api.Session{s(2, 6), s(4, 5)}, 0}, {3, 1, []api.Session{s(2, 5), s(3, 1), s(4, 5)}, 0}, {4, 9, []api.Session{s(2, 5), s(4, 9)}, 0}, {16, 1, []api.Session{s(2, 5), s(4, 5), s(16, 1)}, 0},
		{2, 5, nil, api.ErrStale}, {2, 4, nil, api.ErrStale}, {2, 0, nil, api.ErrArg}, {0, 9, nil, api.ErrArg}, {17, 9, nil, api.ErrArg},
	} {
		got, e := sessions.Keep(room, x.client, x.number, answer(x.client, x.number))
		if e != x.e || !reflect.DeepEqual(got, x.want) {
			t.Error(n, got, e)
		}
		if len(got) > 0 {
			got[0].Number = 77
		}
	}
	if room[0] != s(2, 5) || room[1] != s(4, 5) || room[:3][2] != (api.Session{}) {
		t.Error("changed", room)
	}
}

func TestOnce(t *testing.T) { // P15.4
	r := rand.New(rand.NewSource(1))
	var l []api.Session
	done := map[[2]int]api.Answer{}
	last := map[int]int{}
	for n := range 3000 {
		c, number := 1+r.Intn(16), 1+r.Intn(n/40+2)
		a, fresh, e := sessions.Ask(l, c, number)
		was, is := done[[2]int{c, number}]
		switch {
		case number < last[c]:
			if e != api.ErrStale {
				t.Fatal(e)
			}
		case is:
			if fresh || e != api.OK || a != was {
				t.Fatal("twice")
			}
		case !fresh || e != api.OK:
			t.Fatal("not fresh")
		default:
			a = api.Answer{Rate: n}
			if l, e = sessions.Keep(l, c, number, a); e != api.OK || !sessions.Check(l) || sessions.Last(l, c) != number {
				t.Fatal(e)
			}
			done[[2]int{c, number}], last[c] = a, number
		}
	}
}
