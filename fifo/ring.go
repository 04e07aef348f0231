package fifo

import "iter"

// ring is a row with an end, in slots that are taken round and round.
type ring[T any] struct {
	slots    []T
	first, n int
}

// push lays x behind the others, if there is room.
func (r *ring[T]) push(x T) bool {
	if r.n >= len(r.slots) {
		return false
	}
	r.slots[(r.first+r.n)%len(r.slots)] = x
	r.n++
	return true
}

// pop takes the first one away; there must be one.
func (r *ring[T]) pop() T {
	var none T
	x := r.slots[r.first]
	r.slots[r.first] = none
	r.first = (r.first + 1) % len(r.slots)
	r.n--
	return x
}

// all goes over them, in order.
func (r *ring[T]) all() iter.Seq[T] {
	return func(yield func(T) bool) {
		for k := range r.n {
			if !yield(r.slots[(r.first+k)%len(r.slots)]) {
				return
			}
		}
	}
}
