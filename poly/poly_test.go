package poly_test

import (
	"bytes"
	"hash/crc32"
	"math/bits"
	"testing"

	"freeboard/poly"
)

// goOn is the chapter's words, bit by bit: to go on from a sum with a byte.
func goOn(s uint32, x byte) uint32 {
	s = ^s ^ uint32(x)
	for range 8 {
		odd := s%2 == 1
		s /= 2
		if odd {
			s ^= 0x82f63b78
		}
	}
	return ^s
}

func goOnAll(s uint32, b []byte) uint32 {
	for _, x := range b {
		s = goOn(s, x)
	}
	return s
}

// mixed are n bytes without a plain pattern, the same ones each time.
func mixed(n int, seed uint32) []byte {
	b := make([]byte, n)
	for i := range b {
		seed = seed*1664525 + 1013904223
		b[i] = byte(seed >> 24)
	}
	return b
}

// starts are sums to go on from: the edges, each single bit, and some others.
func starts() []uint32 {
	l := []uint32{0, 0xffffffff, 0xfffffffe, 0x7fffffff, 0x82f63b78, 0x7d09c487, 0xe3069283}
	for i := range 32 {
		l = append(l, 1<<i)
	}
	return l
}

func texts() [][]byte {
	var l [][]byte
	for n := range 140 {
		l = append(l, make([]byte, n), bytes.Repeat([]byte{255}, n), mixed(n, uint32(n)))
	}
	return append(l, mixed(4096, 1), mixed(1<<16, 2))
}

func TestExamples(t *testing.T) {
	for i, c := range []struct{ got, want uint32 }{
		{poly.Sum(nil), 0},
		{poly.Sum([]byte{}), 0},
		{poly.Sum([]byte("123456789")), 0xe3069283},
		{poly.Over(0xe3069283, nil), 0xe3069283},
		{poly.Over(0xe3069283, []byte{}), 0xe3069283},
		{poly.Over(poly.Sum([]byte("1234")), []byte("56789")), 0xe3069283},
	} {
		if c.got != c.want {
			t.Errorf("%d: %08x, not %08x", i, c.got, c.want)
		}
	}
}

// P1.1: from every start, with every byte, as the words say.
func TestOverGoesOnWithEachByte(t *testing.T) {
	for _, s := range starts() {
		for x := range 256 {
			if got, want := poly.Over(s, []byte{byte(x)}), goOn(s, byte(x)); got != want {
				t.Fatalf("Over(%08x, %02x) is %08x, not %08x", s, x, got, want)
			}
		}
	}
}

// P1.1: many bytes, in order; and the sum is the one that is known as CRC32C.
func TestSumsOfTexts(t *testing.T) {
	table := crc32.MakeTable(crc32.Castagnoli)
	for i, b := range texts() {
		if got, want := poly.Sum(b), goOnAll(0, b); got != want || got != crc32.Checksum(b, table) {
			t.Fatalf("text %d of %d bytes: %08x, not %08x", i, len(b), got, want)
		}
		for _, s := range []uint32{1, 0x80000000, 0xffffffff} {
			if got, want := poly.Over(s, b), goOnAll(s, b); got != want {
				t.Fatalf("text %d of %d bytes, from %08x: %08x, not %08x", i, len(b), s, got, want)
			}
		}
	}
	if poly.Sum([]byte("ab")) == poly.Sum([]byte("ba")) {
		t.Error("the order counts for nothing")
	}
}

// P1: nothing that is handed in ends in a panic, however much it is.
func TestMuchIsSummed(t *testing.T) {
	b := mixed(1<<22, 3)
	if got, want := poly.Sum(b), crc32.Checksum(b, crc32.MakeTable(crc32.Castagnoli)); got != want {
		t.Errorf("%08x, not %08x", got, want)
	}
}

// P1.2: what is handed in is only read, also behind its end; and nothing is kept.
func TestOnlyRead(t *testing.T) {
	all := mixed(300, 4)
	was := bytes.Clone(all)
	b := all[20:200]
	first, on := poly.Sum(b), poly.Over(9, b)
	poly.Sum(mixed(50, 5))
	if again, onAgain := poly.Sum(b), poly.Over(9, b); again != first || onAgain != on {
		t.Errorf("asked again: %08x and %08x, not %08x and %08x", again, onAgain, first, on)
	}
	if !bytes.Equal(all, was) {
		t.Error("what was handed in is another one")
	}
}

// P1.3: some bytes and others behind them.
func TestInParts(t *testing.T) {
	b := mixed(130, 6)
	want := poly.Sum(b)
	for i := range len(b) + 1 {
		for _, k := range []int{i, (i + len(b)) / 2, len(b)} {
			s := poly.Over(poly.Over(poly.Sum(b[:i]), b[i:k]), b[k:])
			if s != want {
				t.Fatalf("parted at %d and %d: %08x, not %08x", i, k, s, want)
			}
		}
	}
}

// rank is how many of the numbers are none that others of them make, put together by exclusive or.
func rank(l []uint32) int {
	var by [33]uint32
	n := 0
	for _, x := range l {
		for x != 0 && by[bits.Len32(x)] != 0 {
			x ^= by[bits.Len32(x)]
		}
		if x != 0 {
			by[bits.Len32(x)] = x
			n++
		}
	}
	return n
}

// P1.3: two sums that are not the same stay so. To go on is the same turn of bits from each sum, so it is enough that the 32 bits go to 32 that don't make one another.
func TestUnlikeSumsStayUnlike(t *testing.T) {
	for _, b := range [][]byte{nil, {0}, {255}, mixed(7, 7), mixed(128, 8)} {
		none := poly.Over(0, b)
		var l []uint32
		for i := range 32 {
			l = append(l, poly.Over(1<<i, b)^none)
		}
		if n := rank(l); n != 32 {
			t.Errorf("behind %d bytes: %d of 32", len(b), n)
		}
	}
	for x := range 256 {
		seen := map[uint32]uint32{}
		for _, s := range starts() {
			on := poly.Over(s, []byte{byte(x)})
			if other, ok := seen[on]; ok {
				t.Fatalf("%08x and %08x go on with %02x to %08x", s, other, x, on)
			}
			seen[on] = s
		}
	}
}

// P1.3: up to four bytes side by side.
func TestTurnedBytesTurnTheSum(t *testing.T) {
	b := mixed(128, 9)
	want := poly.Sum(b)
	other := func(at int, turn []byte) {
		c := bytes.Clone(b)
		for i, x := range turn {
			c[at+i] ^= x
		}
		if !bytes.Equal(c, b) && poly.Sum(c) == want {
			t.Fatalf("%x turned at %d: the sum is the same", turn, at)
		}
	}
	for at := range b {
		for x := range 256 {
			other(at, []byte{byte(x)})
		}
		for many := 2; many <= min(4, len(b)-at); many++ {
			for k := range uint32(200) {
				other(at, mixed(many, k*131+uint32(at)))
			}
		}
	}
}

// P1.3: behind its own sum, the lowest byte first, each text has one sum.
func TestBehindItsOwnSum(t *testing.T) {
	for i, b := range texts() {
		s := poly.Sum(b)
		own := []byte{byte(s), byte(s >> 8), byte(s >> 16), byte(s >> 24)}
		if got := poly.Over(s, own); got != 0x48674bc7 {
			t.Fatalf("text %d: %08x", i, got)
		}
	}
}
