package packet_test

import (
	"bytes"
	"math"
	"math/rand"
	"slices"
	"testing"

	"weir/api"
	"weir/packet"
)

func TestBuild(t *testing.T) { // P23.1
	b, e := packet.Build(api.Packet{Number: 9, Tenant: 1})
	if e != api.OK || !bytes.Equal(b, []byte{0x69, 1, 0, 0, 0, 0, 0x96, 0xFE}) {
		t.Errorf("% X %v", b, e)
	}
	load := make([]byte, 300)
	for k := range load {
		load[k] = byte(k * 7)
	}
	p := api.Packet{Tenant: 16, Class: 255, Load: load}
	b, e = packet.Build(p)
	if e != api.OK || !bytes.Equal(b[:6], []byte{0x69, 16, 255, 0, 1, 44}) || !bytes.Equal(b[8:], load) || packet.Size(p) != 308 || len(b) != 308 {
		t.Errorf("% X %v", b, e)
	}
	b[8] = 77
	if load[0] == 77 {
		t.Error("shared")
	}
	most := api.MaxPacket - 8
	for n, x := range []struct {
		tenant, class, n int
		want             api.Errno
	}{{0, 0, 0, api.ErrArg}, {17, 0, 0, api.ErrArg}, {-1, 0, most + 1, api.ErrArg}, {1, -1, 0, api.ErrArg}, {1, 256, most + 1, api.ErrArg}, {1, 0, most + 1, api.ErrLong}, {1, 0, most, api.OK}, {257, 0, 0, api.ErrArg}, {math.MaxInt, 0, 0, api.ErrArg}} {
		b, e := packet.Build(api.Packet{Tenant: x.tenant, Class: x.class, Load: make([]byte, x.n)})
		if e != x.want || (b == nil) != (e != api.OK) {
			t.Error(n, e)
		}
	}
	if packet.Size(api.Packet{}) != 8 || packet.Size(api.Packet{Load: make([]byte, 5000)}) != 5008 {
		t.Error("size")
	}
}

func TestCheck(t *testing.T) { // P23.2
	for n, x := range []struct {
		b    []byte
		want uint16
	}{
		{nil, 0xFFFF}, {[]byte{1}, 0xFEFF}, {[]byte{0, 1}, 0xFFFE}, {[]byte{0xFF, 0xFF, 0, 1}, 0xFFFE}, {[]byte{0xFF, 0xFF, 0xFF, 0xFF, 0xFF}, 0x00FF}, {[]byte{0x12, 0x34, 0x56}, ^uint16(0x1234 + 0x5600)},
		{bytes.Repeat([]byte{0xFF}, 1<<20), 0},
	} {
		if got := packet.Check(x.b); got != x.want {
			t.Errorf("%d: %X", n, got)
		}
	}
	r := rand.New(rand.NewSource(1))
	for range 200 {
		b := make([]byte, r.Intn(2000))
		r.Read(b)
		sum := uint64(0)
		for k, x := range b {
			sum += uint64(x) << (8 * (1 - k%2))
		}
		for sum > 0xFFFF {
			sum = sum&0xFFFF + sum>>16
		}
		if packet.Check(b) != ^uint16(sum) {
			t.Fatal(b)
		}
	}
}

func TestParse(t *testing.T) { // P23.2, P23.4
	r := rand.New(rand.NewSource(2))
	for n := range 60 {
		p := api.Packet{Tenant: 1 + r.Intn(16), Class: r.Intn(256), Load: make([]byte, r.Intn(40))}
		if n == 0 {
			p.Load = make([]byte, api.MaxPacket-8)
		}
		r.Read(p.Load)
		b, _ := packet.Build(p)
		q, e := packet.Parse(b)
		if e != api.OK || q.Number != 0 || q.Tenant != p.Tenant || q.Class != p.Class || !bytes.Equal(q.Load, p.Load) {
			t.Fatal(p, q, e)
		}
		if again, _ := packet.Build(q); !bytes.Equal(again, b) {
			t.Fatal("again")
		}
		for k := range min(len(b), 60) {
			for d := 1; d < 256; d += 1 + n {
				c := slices.Clone(b)
				c[k] += byte(d)
				if q, e := packet.Parse(c); e != api.ErrHead || q.Tenant != 0 || q.Load != nil {
					t.Fatal(k, d, e)
				}
			}
		}
		for _, c := range [][]byte{b[:len(b)-1], append(slices.Clone(b), 0), b[:7], nil} {
			if _, e := packet.Parse(c); e != api.ErrHead {
				t.Fatal(e)
			}
		}
		if len(q.Load) > 0 {
			q.Load[0] ^= 1
			if _, e := packet.Parse(b); e != api.OK {
				t.Fatal("shared")
			}
		}
	}
	long := []byte{0x69, 1, 0, 0, 5, 0xD5, 0, 0} // a load of 1493 bytes
	long = append(long, make([]byte, 1493)...)
	sum := packet.Check(long)
	long[6], long[7] = byte(sum>>8), byte(sum)
	none := []byte{0x69, 17, 0, 0, 0, 0, 0, 0}
	sum = packet.Check(none)
	none[6], none[7] = byte(sum>>8), byte(sum)
	other := []byte{0x69, 1, 0, 1, 0, 0, 0, 0}
	sum = packet.Check(other)
	other[6], other[7] = byte(sum>>8), byte(sum)
	for n, b := range [][]byte{long, none, other} {
		if _, e := packet.Parse(b); e != api.ErrHead {
			t.Error(n, e)
		}
	}
}

func TestFlow(t *testing.T) { // P23.3
	l := []api.Flow{{Tenant: 2}, {Tenant: 1}, {Tenant: 2}, {Tenant: 2}, {Tenant: -4}}
	for n, x := range []struct {
		tenant, class, want int
		e                   api.Errno
	}{{2, 0, 0, 0}, {2, 1, 2, 0}, {2, 2, 3, 0}, {2, 3, 0, 0}, {2, 254, 3, 0}, {1, 99, 1, 0}, {3, -1, 0, api.ErrTenant}, {2, -1, 0, api.ErrArg}, {2, math.MaxInt, 2, 0}, {-4, 7, 4, 0}, {2, math.MinInt, 0, api.ErrArg}} {
		if k, e := packet.Flow(l, api.Packet{Tenant: x.tenant, Class: x.class}); k != x.want || e != x.e {
			t.Error(n, k, e)
		}
	}
	if _, e := packet.Flow(nil, api.Packet{Tenant: 1}); e != api.ErrTenant {
		t.Error(e)
	}
}
