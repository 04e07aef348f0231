package sums_test

import (
	"math/rand"
	"testing"

	"weir/sums"
)

// slow is the sum as the words tell it, bit by bit.
func slow(b []byte) uint32 {
	rest := uint32(0xFFFFFFFF)
	for _, x := range b {
		rest ^= uint32(x)
		for range 8 {
			if rest&1 == 1 {
				rest = rest>>1 ^ 0xEDB88320
			} else {
				rest >>= 1
			}
		}
	}
	return ^rest
}

func bytes(r *rand.Rand, n int) []byte {
	b := make([]byte, n)
	r.Read(b)
	return b
}

func TestSum(t *testing.T) { // P4.1
	nine := []byte("123456789")
	if s := sums.Sum(nine); s != 0xCBF43926 {
		t.Errorf("%X", s)
	}
	if s := sums.Signed(nine); s != -873187034 {
		t.Error(s)
	}
	if sums.Sum(nil) != 0 || sums.Sum([]byte{}) != 0 || sums.Signed(nil) != 0 || sums.More(7, nil) != 7 {
		t.Error("nothing")
	}
	r := rand.New(rand.NewSource(1))
	for n := range 300 {
		b := bytes(r, n)
		if s := sums.Sum(b); s != slow(b) || sums.Signed(b) != int32(s) {
			t.Fatal(n)
		}
	}
	for x := range 256 {
		b := []byte{byte(x)}
		if sums.Sum(b) != slow(b) {
			t.Fatal(x)
		}
	}
}

func TestBytes(t *testing.T) { // P4.1
	for _, x := range []struct {
		sum  uint32
		want [4]byte
	}{{0xCBF43926, [4]byte{0xCB, 0xF4, 0x39, 0x26}}, {0, [4]byte{}}, {1, [4]byte{0, 0, 0, 1}}, {0xFF000000, [4]byte{0xFF}}} {
		if got := sums.Bytes(x.sum); got != x.want {
			t.Errorf("%X", got)
		}
	}
}

func TestPieces(t *testing.T) { // P4.2
	r := rand.New(rand.NewSource(2))
	for range 300 {
		b := bytes(r, r.Intn(60))
		s, at := uint32(0), 0
		for at < len(b) {
			n := r.Intn(len(b)-at) + r.Intn(2)
			s = sums.More(s, b[at:at+n])
			at += n
		}
		if s != sums.Sum(b) {
			t.Fatal(b)
		}
	}
}

func TestNearBits(t *testing.T) { // P4.2
	r := rand.New(rand.NewSource(3))
	for range 3000 {
		b := bytes(r, 4+r.Intn(40))
		c := append([]byte(nil), b...)
		at := r.Intn(len(b)*8 - 31)
		turn := uint32(r.Int63()) | 1
		for k := range 32 {
			if turn>>k&1 == 1 {
				c[(at+k)/8] ^= 1 << ((at + k) % 8)
			}
		}
		if sums.Sum(b) == sums.Sum(c) {
			t.Fatal(b, c)
		}
	}
}
