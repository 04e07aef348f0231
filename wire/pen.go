package wire

// pen writes bytes behind one another.
type pen struct{ out []byte }

// write is what a form makes of x.
func write[T any](x T, form func(hand, *T)) []byte {
	p := &pen{}
	form(hand{p.number, p.small, p.set, p.truth, p.text, p.count}, &x)
	return p.out
}

func (p *pen) number(x *int) {
	n := uint64(*x)
	for shift := 56; shift >= 0; shift -= 8 {
		p.out = append(p.out, byte(n>>shift))
	}
}

func (p *pen) small(x *int8) { p.out = append(p.out, byte(*x)) }

func (p *pen) set(x *uint8) { p.out = append(p.out, *x) }

func (p *pen) truth(x *bool) {
	b := byte(0)
	if *x {
		b = 1
	}
	p.out = append(p.out, b)
}

func (p *pen) text(x *[]byte) {
	p.count(len(*x), leastByte)
	p.out = append(p.out, *x...)
}

func (p *pen) count(n, least int) int {
	p.number(&n)
	return n
}
