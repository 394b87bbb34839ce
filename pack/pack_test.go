package pack_test

import (
	"bytes"
	"math"
	"testing"

	"freeboard/api"
	"freeboard/pack"
)

// filled is a block whose bytes are all unlike one another, and none of them nought.
func filled() []byte {
	b := make([]byte, api.Size)
	for i := range b {
		b[i] = byte(2*i + 1)
	}
	return b
}

// blocks are the kinds of blocks that are one: none, empty, noughts, all bits, unlike bytes.
func blocks() [][]byte {
	return [][]byte{nil, {}, make([]byte, api.Size), bytes.Repeat([]byte{255}, api.Size), filled()}
}

// long is the block as Size bytes.
func long(block []byte) []byte {
	return append(bytes.Clone(block), make([]byte, api.Size-len(block))...)
}

// over is 256^size, the first that is no number of that size.
func over(size int) int {
	n := 1
	for range size {
		n *= 256
	}
	return n
}

// numbers are some of a size: the edges, each single bit, and ones whose bytes are unlike.
func numbers(size int) []int {
	l := []int{0, over(size) - 1, over(size) - 2, 0x04030201 % over(size), 0xfb0af9f8 % over(size)}
	for i := range 8 * size {
		l = append(l, 1<<i)
	}
	return l
}

// put is Put where it is to be well.
func put(t *testing.T, block []byte, at, size, n int) []byte {
	t.Helper()
	b, e := pack.Put(block, at, size, n)
	if e != api.OK || len(b) != api.Size {
		t.Fatalf("Put at %d, size %d, %d: %d bytes, error %d", at, size, n, len(b), e)
	}
	return b
}

// take is Take where it is to be well.
func take(t *testing.T, block []byte, at, size int) int {
	t.Helper()
	n, e := pack.Take(block, at, size)
	if e != api.OK {
		t.Fatalf("Take at %d, size %d: error %d", at, size, e)
	}
	return n
}

// refused asks both calls, which are to answer the error and nothing else; Take is asked where the number is not to blame.
func refused(t *testing.T, block []byte, at, size, n int, want api.Errno, both bool) {
	t.Helper()
	if b, e := pack.Put(block, at, size, n); e != want || b != nil {
		t.Errorf("Put of %d bytes, at %d, size %d, %d: %v, error %d, not %d", len(block), at, size, n, b, e, want)
	}
	if !both {
		return
	}
	if k, e := pack.Take(block, at, size); e != want || k != 0 {
		t.Errorf("Take of %d bytes, at %d, size %d: %d, error %d, not %d", len(block), at, size, k, e, want)
	}
}

func TestExamples(t *testing.T) {
	b := put(t, nil, 1, 2, 258)
	if !bytes.Equal(b[:4], []byte{0, 2, 1, 0}) {
		t.Error(b[:4])
	}
	if n := take(t, b, 1, 2); n != 258 {
		t.Error(n)
	}
	if n := take(t, nil, 5, 4); n != 0 {
		t.Error(n)
	}
	refused(t, nil, 0, 1, 256, api.ErrArg, false)
	refused(t, nil, 127, 2, 0, api.ErrArg, true)
	refused(t, nil, 0, 5, 0, api.ErrArg, true)
	refused(t, nil, -1, 1, 0, api.ErrArg, true)
	refused(t, []byte{0}, 0, 1, 0, api.ErrText, true)
}

// P2.1 and P2.3: at each place of each size, n's bytes stand the lowest first, are taken as n, and all others stay.
func TestPutAndTakeEverywhere(t *testing.T) {
	for _, block := range blocks() {
		for size := 1; size <= 4; size++ {
			for at := 0; at <= api.Size-size; at++ {
				for _, n := range numbers(size) {
					want := long(block)
					for i, rest := 0, n; i < size; i++ {
						want[at+i] = byte(rest % 256)
						rest /= 256
					}
					b := put(t, block, at, size, n)
					if !bytes.Equal(b, want) {
						t.Fatalf("Put at %d, size %d, %d: %v, not %v", at, size, n, b, want)
					}
					if k := take(t, b, at, size); k != n {
						t.Fatalf("Take at %d, size %d: %d, not %d", at, size, k, n)
					}
				}
			}
		}
	}
}

// P2.1: all numbers of the sizes that have few.
func TestEachNumber(t *testing.T) {
	for size := 1; size <= 2; size++ {
		for n := range over(size) {
			if k := take(t, put(t, nil, 9, size, n), 9, size); k != n {
				t.Fatalf("size %d: %d, not %d", size, k, n)
			}
		}
	}
}

// P2.1: Take counts bytes as they stand, also those that no Put wrote.
func TestTakeOfAnyBytes(t *testing.T) {
	for _, block := range blocks() {
		b := long(block)
		for size := 1; size <= 4; size++ {
			for at := 0; at <= api.Size-size; at++ {
				want := 0
				for i := size - 1; i >= 0; i-- {
					want = want*256 + int(b[at+i])
				}
				if n := take(t, block, at, size); n != want {
					t.Fatalf("at %d, size %d: %d, not %d", at, size, n, want)
				}
			}
		}
	}
}

// P2.1: what is no block is told ahead of all else.
func TestNoBlock(t *testing.T) {
	for n := range 3 * api.Size {
		if n == 0 || n == api.Size {
			continue
		}
		b := make([]byte, n)
		refused(t, b, 0, 1, 0, api.ErrText, true)
		refused(t, b, -1, 1, 0, api.ErrText, true)
		refused(t, b, api.Size, 1, 0, api.ErrText, true)
		refused(t, b, 0, 0, 0, api.ErrText, true)
		refused(t, b, 0, 5, 0, api.ErrText, true)
		refused(t, b, 0, 1, 256, api.ErrText, true)
		refused(t, b, 0, 1, -1, api.ErrText, true)
	}
}

// P2.1 and P1: sizes and places that are none, the far ends of the numbers too.
func TestNoPlace(t *testing.T) {
	far := []int{math.MinInt, math.MinInt + 1, math.MinInt32, -129, -128, -4, -1, 129, 1 << 31, math.MaxInt - 3, math.MaxInt - 1, math.MaxInt}
	for _, block := range blocks() {
		for _, size := range append([]int{0, 5, 8, 127, 128}, far...) {
			for _, at := range append([]int{0, 5, 124, 127, 128}, far...) {
				refused(t, block, at, size, 0, api.ErrArg, true)
			}
		}
		for size := 1; size <= 4; size++ {
			for _, at := range append([]int{api.Size - size + 1, 128}, far...) {
				refused(t, block, at, size, 0, api.ErrArg, true)
			}
		}
	}
}

// P2.1: numbers that are none of their size, at places that are.
func TestNoNumber(t *testing.T) {
	for _, block := range blocks() {
		for size := 1; size <= 4; size++ {
			for _, n := range []int{over(size), over(size) + 1, 2 * over(size), over(4), -1, -2, -over(size), 1 - over(size), math.MinInt, math.MinInt32, math.MaxInt} {
				refused(t, block, 0, size, n, api.ErrArg, false)
				refused(t, block, api.Size-size, size, n, api.ErrArg, false)
			}
		}
	}
}

// P2.2: what is handed in is only read, on either side of it too.
func TestOnlyRead(t *testing.T) {
	for _, n := range []int{0, 1, api.Size - 1, api.Size, api.Size + 1} {
		all := bytes.Repeat(filled(), 4)
		was := bytes.Clone(all)
		block := all[api.Size : api.Size+n]
		for at := -1; at <= api.Size; at++ {
			for size := 0; size <= 5; size++ {
				pack.Put(block, at, size, 0)
				pack.Put(block, at, size, 256)
				pack.Take(block, at, size)
			}
		}
		if !bytes.Equal(all, was) {
			t.Errorf("%d bytes that were handed in are others", n)
		}
	}
}

// P2.2: what is answered shares nothing with what was handed in, nor with another answer.
func TestNewMemory(t *testing.T) {
	for _, block := range blocks() {
		handed := bytes.Clone(block)
		a, b := put(t, handed, 3, 2, 77), put(t, handed, 3, 2, 77)
		want := bytes.Clone(a)
		clear(b[:cap(b)])
		clear(handed)
		if !bytes.Equal(a, want) {
			t.Error("an answer shares its bytes")
		}
		clear(a[:cap(a)])
		if c := put(t, block, 3, 2, 77); !bytes.Equal(c, want) {
			t.Error("an answer is kept from call to call")
		}
	}
	handed := filled()
	clear(put(t, handed, 0, 1, take(t, handed, 0, 1)))
	if !bytes.Equal(handed, filled()) {
		t.Error("the block that was handed in is the answer")
	}
}

// P2.3: two that share no byte, in either order; and each of them is taken.
func TestTwoPlaces(t *testing.T) {
	for size := 1; size <= 4; size++ {
		for other := 1; other <= 4; other++ {
			for at := 0; at <= api.Size-size; at++ {
				for _, by := range []int{at - other, at + size, at + size + 1, 0, api.Size - other} {
					if by < 0 || by > api.Size-other || by < at+size && at < by+other {
						continue
					}
					n, k := 0x87654321%over(size), 0xfedcba98%over(other)
					a := put(t, put(t, filled(), at, size, n), by, other, k)
					b := put(t, put(t, filled(), by, other, k), at, size, n)
					if !bytes.Equal(a, b) || take(t, a, at, size) != n || take(t, a, by, other) != k {
						t.Fatalf("at %d, size %d, and at %d, size %d", at, size, by, other)
					}
				}
			}
		}
	}
}

// P2.3: of two at one place the later one stands, as if the first had never been put; what is taken, put where it was, changes nothing.
func TestOnePlace(t *testing.T) {
	for _, block := range blocks() {
		for size := 1; size <= 4; size++ {
			for at := 0; at <= api.Size-size; at++ {
				if b := put(t, block, at, size, take(t, block, at, size)); !bytes.Equal(b, long(block)) {
					t.Fatalf("put back at %d, size %d: %v", at, size, b)
				}
				for _, n := range numbers(size) {
					first := put(t, block, at, size, over(size)-1-n)
					if b := put(t, first, at, size, n); !bytes.Equal(b, put(t, block, at, size, n)) {
						t.Fatalf("%d at %d, size %d, does not stand", n, at, size)
					}
				}
			}
		}
	}
}
