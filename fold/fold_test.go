package fold_test

import (
	"bytes"
	"slices"
	"testing"

	"freeboard/api"
	"freeboard/fold"
)

// filled is a block that is a function of its number: its bytes are unlike one another, and unlike those of the next ones.
func filled(n int) []byte {
	b := make([]byte, api.Size)
	for i := range b {
		b[i] = byte((2*i+1)*(2*n+3) + n*n + i/7)
	}
	return b
}

// some are n blocks; each fifth of them is none, and it is nil or empty by turns.
func some(n int) [][]byte {
	l := make([][]byte, n)
	for i := range l {
		switch i % 10 {
		case 3:
			l[i] = nil
		case 8:
			l[i] = []byte{}
		default:
			l[i] = filled(i)
		}
	}
	return l
}

// long is the block as Size bytes.
func long(block []byte) []byte {
	return append(bytes.Clone(block), make([]byte, api.Size-len(block))...)
}

// clone is the same blocks in other memory.
func clone(l [][]byte) [][]byte {
	c := slices.Clone(l)
	for i := range c {
		c[i] = bytes.Clone(c[i])
	}
	return c
}

// summed is the fold by the chapter's words, bit by bit: a bit is one, if it is one in an odd number of blocks.
func summed(l [][]byte) []byte {
	f := make([]byte, api.Size)
	for i := range f {
		for bit := range 8 {
			n := 0
			for _, b := range l {
				n += int(long(b)[i]) >> bit & 1
			}
			f[i] += byte(n % 2 << bit)
		}
	}
	return f
}

// folded is Fold where it is to be well.
func folded(t *testing.T, l ...[]byte) []byte {
	t.Helper()
	f, e := fold.Fold(l)
	if e != api.OK || len(f) != api.Size {
		t.Fatalf("Fold of %d blocks: %d bytes, error %d", len(l), len(f), e)
	}
	return f
}

// refused asks for the fold, which is to be the error and nothing else.
func refused(t *testing.T, l [][]byte, want api.Errno) {
	t.Helper()
	if f, e := fold.Fold(l); e != want || f != nil {
		t.Errorf("Fold of %d blocks: %v, error %d, not %d", len(l), f, e, want)
	}
}

func TestExamples(t *testing.T) {
	a, b := bytes.Repeat([]byte{5}, api.Size), bytes.Repeat([]byte{3}, api.Size)
	for i, c := range []struct {
		l    [][]byte
		want []byte
	}{
		{nil, make([]byte, api.Size)},
		{[][]byte{}, make([]byte, api.Size)},
		{[][]byte{a}, a},
		{[][]byte{a, b}, bytes.Repeat([]byte{6}, api.Size)},
		{[][]byte{a, b, a}, b},
		{[][]byte{nil, a}, a},
		{[][]byte{{}, a}, a},
	} {
		if f := folded(t, c.l...); !bytes.Equal(f, c.want) {
			t.Errorf("example %d: %v", i, f)
		}
	}
	refused(t, [][]byte{{5}}, api.ErrText)
	refused(t, make([][]byte, 17), api.ErrMany)
}

// P3.1: of as many blocks as may be, each bit by the chapter's words.
func TestFoldOfAnyNumber(t *testing.T) {
	for n := 0; n <= api.MaxMembers; n++ {
		for _, l := range [][][]byte{some(n), make([][]byte, n), slices.Repeat([][]byte{filled(1)}, n), slices.Repeat([][]byte{bytes.Repeat([]byte{255}, api.Size)}, n)} {
			if f := folded(t, l...); !bytes.Equal(f, summed(l)) {
				t.Errorf("Fold of %d blocks: %v, not %v", n, f, summed(l))
			}
		}
	}
}

// P3.1: a single bit of any block stands in the fold where it stood, and nowhere else.
func TestEachBit(t *testing.T) {
	for at := range api.MaxMembers {
		for i := range api.Size {
			for bit := range 8 {
				l := make([][]byte, api.MaxMembers)
				l[at] = make([]byte, api.Size)
				l[at][i] = 1 << bit
				if f := folded(t, l...); !bytes.Equal(f, l[at]) {
					t.Fatalf("bit %d of byte %d of block %d: %v", bit, i, at, f)
				}
			}
		}
	}
}

// P3.1: a block that is none is told, wherever it stands, and however many there are.
func TestNoBlock(t *testing.T) {
	for n := 1; n <= api.MaxMembers; n++ {
		for at := range n {
			for _, size := range []int{1, 2, 64, api.Size - 1, api.Size + 1, 2 * api.Size, 16 * api.Size} {
				l := some(n)
				l[at] = make([]byte, size)
				refused(t, l, api.ErrText)
				l[n-1-at] = make([]byte, size)
				refused(t, l, api.ErrText)
			}
		}
	}
	for size := range 3 * api.Size {
		if size != 0 && size != api.Size {
			refused(t, [][]byte{make([]byte, size)}, api.ErrText)
		}
	}
}

// P3.1: too many are told ahead of one that is no block; where there are as many as may be, that one is told.
func TestTooMany(t *testing.T) {
	for _, n := range []int{17, 18, 31, 32, 33, 255, 256, 1 << 16} {
		refused(t, make([][]byte, n), api.ErrMany)
		refused(t, some(n), api.ErrMany)
		for _, at := range []int{0, 15, 16, n - 1} {
			l := some(n)
			l[at] = []byte{1}
			refused(t, l, api.ErrMany)
		}
	}
	refused(t, append(make([][]byte, 15), []byte{1}), api.ErrText)
}

// P3.2: what is handed in is only read: the list and its blocks, and what stands on either side of them.
func TestOnlyRead(t *testing.T) {
	for n := 0; n <= api.MaxMembers+1; n++ {
		for _, size := range []int{0, 1, api.Size - 1, api.Size, api.Size + 1} {
			var bulk []byte
			for i := range n + 4 {
				bulk = append(bulk, filled(i)...)
			}
			all := make([][]byte, n+2) // the first and the last of them are not handed in
			for i := range all {
				all[i] = bulk[i*api.Size+1:][:size]
			}
			wasBulk, wasAll := bytes.Clone(bulk), slices.Clone(all)
			fold.Fold(all[1 : n+1])
			same := bytes.Equal(bulk, wasBulk)
			for i := range all {
				same = same && len(all[i]) == size && &all[i][:1][0] == &wasAll[i][:1][0]
			}
			if !same {
				t.Errorf("what was handed in is other: %d of %d bytes", n, size)
			}
		}
	}
}

// P3.2: what is answered shares nothing with what was handed in, nor with another answer.
func TestNewMemory(t *testing.T) {
	for n := 0; n <= api.MaxMembers; n++ {
		l := some(n)
		want := summed(l)
		a, b := folded(t, l...), folded(t, l...)
		clear(b[:cap(b)])
		if !bytes.Equal(a, want) || !slices.EqualFunc(l, some(n), bytes.Equal) {
			t.Errorf("an answer of %d blocks shares its bytes", n)
		}
		for _, x := range l {
			clear(x)
		}
		if !bytes.Equal(a, want) {
			t.Errorf("an answer of %d blocks is of what was handed in", n)
		}
		clear(a[:cap(a)])
		if c := folded(t, some(n)...); !bytes.Equal(c, want) {
			t.Errorf("an answer of %d blocks hangs on an earlier one", n)
		}
	}
}

// P3.2: a block alone, or with none, is answered as another one, too.
func TestOneBlockIsNew(t *testing.T) {
	for _, l := range [][][]byte{{filled(2)}, {nil, filled(2)}, {filled(2), nil}, {{}, filled(2), {}}} {
		clear(folded(t, l...))
		for _, b := range l {
			if len(b) != 0 && !bytes.Equal(b, filled(2)) {
				t.Error("the block that was handed in is the answer")
			}
		}
	}
}

// P3.1 and P1: an error leaves nothing behind that a later answer has.
func TestNothingKept(t *testing.T) {
	want := summed(some(7))
	for range 3 {
		refused(t, append(some(7), []byte{1}), api.ErrText)
		refused(t, append([][]byte{{1}}, some(7)...), api.ErrText)
		refused(t, some(17), api.ErrMany)
		if f := folded(t, some(7)...); !bytes.Equal(f, want) {
			t.Errorf("a fold behind an error: %v", f)
		}
	}
}

// P3.3: a fold hangs on no order.
func TestAnyOrder(t *testing.T) {
	for n := 0; n <= api.MaxMembers; n++ {
		l := some(n)
		want := folded(t, l...)
		back := clone(l)
		slices.Reverse(back)
		if f := folded(t, back...); !bytes.Equal(f, want) {
			t.Errorf("%d blocks from behind: %v", n, f)
		}
		for i := range n {
			for k := range i {
				c := clone(l)
				c[i], c[k] = c[k], c[i]
				if f := folded(t, c...); !bytes.Equal(f, want) {
					t.Errorf("%d blocks, %d and %d in each other's place: %v", n, k, i, f)
				}
			}
			if f := folded(t, append(clone(l[i:]), l[:i]...)...); !bytes.Equal(f, want) {
				t.Errorf("%d blocks from %d on: %v", n, i, f)
			}
		}
	}
}

// P3.3: each of some blocks is the fold of all others and the fold of all.
func TestEachFromOthers(t *testing.T) {
	for n := 1; n <= api.MaxMembers; n++ {
		l := some(n)
		all := folded(t, l...)
		for i := range l {
			others := append(slices.Delete(clone(l), i, i+1), all)
			if f := folded(t, others...); !bytes.Equal(f, long(l[i])) {
				t.Errorf("block %d of %d: %v", i, n, f)
			}
		}
		if n < api.MaxMembers && !bytes.Equal(folded(t, append(l, all)...), make([]byte, api.Size)) {
			t.Errorf("%d blocks and their fold are not noughts", n)
		}
	}
}

// P3.3: a fold of folds is the fold of all their blocks.
func TestFoldOfFolds(t *testing.T) {
	for n := 0; n <= api.MaxMembers; n++ {
		l := some(n)
		want := folded(t, l...)
		for i := 0; i <= n; i++ {
			for k := i; k <= n; k++ {
				f := folded(t, folded(t, l[:i]...), folded(t, l[i:k]...), folded(t, l[k:]...))
				if !bytes.Equal(f, want) {
					t.Errorf("%d blocks, cut at %d and %d: %v", n, i, k, f)
				}
			}
		}
	}
}

// P3.3: one block twice is nothing, wherever both stand.
func TestTwice(t *testing.T) {
	for n := 0; n <= api.MaxMembers-2; n++ {
		l := some(n)
		want := folded(t, l...)
		for _, b := range [][]byte{nil, {}, filled(0), filled(5), bytes.Repeat([]byte{255}, api.Size)} {
			for i := 0; i <= n; i++ {
				for k := i; k <= n; k++ {
					c := slices.Insert(slices.Insert(clone(l), k, b), i, b)
					if f := folded(t, c...); !bytes.Equal(f, want) {
						t.Errorf("%d blocks, and one twice, at %d and %d: %v", n, i, k, f)
					}
				}
			}
		}
	}
}
