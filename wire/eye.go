package wire

import (
	"slices"

	"weir/api"
)

// most is of how many bytes a thing is read.
const most = 1 << 20

// eye reads bytes, one thing behind the other.
type eye struct {
	b  []byte
	at int
}

// refusal is what reading leaves by: the first byte that can't stand where it does.
type refusal struct{ at int }

// read is what a form finds in b, all of it.
func read[T any](b []byte, form func(hand, *T)) (x T, at int, e api.Errno) {
	if len(b) > most {
		return x, 0, api.ErrLong
	}
	defer func() {
		if r, ok := recover().(refusal); ok {
			var none T
			x, at, e = none, r.at, api.ErrWire
		}
	}()
	y := &eye{b: b}
	form(hand{y.number, y.small, y.set, y.truth, y.text, y.count}, &x)
	if y.at < len(b) {
		panic(refusal{y.at})
	}
	return x, 0, api.OK
}

// take is the next n bytes.
func (y *eye) take(n int) []byte {
	if n > len(y.b)-y.at {
		panic(refusal{len(y.b)})
	}
	y.at += n
	return y.b[y.at-n : y.at]
}

func (y *eye) number(x *int) {
	n := uint64(0)
	for _, b := range y.take(leastNumber) {
		n = n<<8 | uint64(b)
	}
	*x = int(n)
}

func (y *eye) small(x *int8) { *x = int8(y.take(1)[0]) }

func (y *eye) set(x *uint8) { *x = y.take(1)[0] }

func (y *eye) truth(x *bool) {
	b := y.take(1)[0]
	if b > 1 {
		panic(refusal{y.at - 1})
	}
	*x = b == 1
}

func (y *eye) text(x *[]byte) {
	if n := y.count(0, leastByte); n > 0 {
		*x = slices.Clone(y.take(n))
	}
}

// count does not take n's word for it: a list is made only where all of its things may stand behind.
func (y *eye) count(n, least int) int {
	at := y.at
	y.number(&n)
	if n < 0 || n > (len(y.b)-y.at)/least {
		panic(refusal{at})
	}
	return n
}
