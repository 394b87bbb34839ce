package super_test

import (
	"bytes"
	"encoding/binary"
	"hash/crc32"
	"math"
	"math/bits"
	"testing"

	"freeboard/api"
	"freeboard/label"
	"freeboard/super"
)

// first is the super of the chapter's examples.
func first() api.Super {
	return api.Super{Id: 7, Age: 1, Seq: 300, Tail: 5}
}

// some are supers that may be, with the edges of each number among them.
func some() []api.Super {
	return []api.Super{
		first(),
		{Id: 0, Age: 1, Seq: 1, Tail: 0},
		{Id: math.MaxUint32, Age: 1 << 31, Seq: 1 << 31, Tail: 254},
		{Id: 0x04030201, Age: 0x08070605, Seq: 0x0c0b0a09, Tail: 13},
		{Id: 0x81929394, Age: 1<<31 - 1, Seq: 1, Tail: 253},
		{Id: 1 << 31, Age: 1, Seq: 1<<31 - 1, Tail: 1},
	}
}

// total is the sum of bytes.
func total(b []byte) uint32 {
	return crc32.Checksum(b, crc32.MakeTable(crc32.Castagnoli))
}

// summed is the block with its first 124 bytes' sum.
func summed(b []byte) []byte {
	out := bytes.Clone(b)
	binary.LittleEndian.PutUint32(out[124:], total(out[:124]))
	return out
}

// laid is a super's block, byte by byte.
func laid(s api.Super) []byte {
	b := make([]byte, 128)
	b[0] = 83
	binary.LittleEndian.PutUint32(b[1:], s.Id)
	binary.LittleEndian.PutUint32(b[5:], s.Age)
	binary.LittleEndian.PutUint32(b[9:], s.Seq)
	b[13] = byte(s.Tail)
	return summed(b)
}

// mayBe tells by the chapter's words whether a super may be.
func mayBe(s api.Super) bool {
	return s.Age != 0 && s.Age <= 1<<31 && s.Seq != 0 && s.Seq <= 1<<31 && s.Tail >= 0 && s.Tail <= 254
}

// told is the super that a block tells by the chapter's words, whether or not it may be: the last result tells whether all else of the block is as it is to be.
func told(b []byte) (api.Super, bool) {
	if len(b) != 128 || b[0] != 83 || binary.LittleEndian.Uint32(b[124:]) != total(b[:124]) {
		return api.Super{}, false
	}
	for _, x := range b[14:124] {
		if x != 0 {
			return api.Super{}, false
		}
	}
	return api.Super{
		Id: binary.LittleEndian.Uint32(b[1:]), Age: binary.LittleEndian.Uint32(b[5:]),
		Seq: binary.LittleEndian.Uint32(b[9:]), Tail: int(b[13]),
	}, true
}

// well holds a super to be one that may be, whose block is this one, which is read as it and is no label's.
func well(t *testing.T, s api.Super) []byte {
	t.Helper()
	if e := super.Check(s); e != api.OK {
		t.Fatalf("%+v: Check is %d", s, e)
	}
	b, e := super.Write(s)
	if e != api.OK || !bytes.Equal(b, laid(s)) {
		t.Fatalf("%+v: Write is %v, error %d", s, b, e)
	}
	if r, e := super.Read(b); r != s || e != api.OK {
		t.Fatalf("%+v: read as %+v, error %d", s, r, e)
	}
	if l, e := label.Read(b); e != api.ErrSum {
		t.Fatalf("%+v: its block is that of label %+v, error %d", s, l, e)
	}
	return b
}

// refused holds a super to be one that may not be.
func refused(t *testing.T, s api.Super) {
	t.Helper()
	if e := super.Check(s); e != api.ErrBad {
		t.Fatalf("%+v: Check is %d, not ErrBad", s, e)
	}
	if b, e := super.Write(s); b != nil || e != api.ErrBad {
		t.Fatalf("%+v: Write is %v, error %d, not ErrBad", s, b, e)
	}
}

// asked holds Check and Write to answer of a super what the chapter's words tell.
func asked(t *testing.T, s api.Super) {
	t.Helper()
	if mayBe(s) {
		well(t, s)
		return
	}
	refused(t, s)
}

// none holds Read to answer this error and nothing else.
func none(t *testing.T, b []byte, want api.Errno) {
	t.Helper()
	if s, e := super.Read(b); s != (api.Super{}) || e != want {
		t.Fatalf("Read of %v is %+v, error %d, not %d", b, s, e, want)
	}
}

// seen holds Read to answer of a block of Size bytes what the chapter's words tell; it tells whether it is a super's.
func seen(t *testing.T, b []byte) bool {
	t.Helper()
	s, ok := told(b)
	if !ok || !mayBe(s) {
		none(t, b, api.ErrSum)
		return false
	}
	if r, e := super.Read(b); r != s || e != api.OK {
		t.Fatalf("Read of %v is %+v, error %d, not %+v", b, r, e, s)
	}
	if w := well(t, s); !bytes.Equal(w, b) {
		t.Fatalf("what is read of %v is written as %v", b, w)
	}
	return true
}

// chance goes on from a number to one that seems to have nothing to do with it.
func chance(n uint64) uint64 {
	n ^= n << 13
	n ^= n >> 7
	return n ^ n<<17
}

// great are numbers of four bytes: the edges, each bit, and what is beside each.
func great() []uint32 {
	l := []uint32{0, 1, 2, 254, 255, 256, math.MaxUint32}
	for i := range 32 {
		n := uint32(1) << i
		l = append(l, n-1, n, n+1, ^n)
	}
	return l
}

// far are places far from the ring.
func far() []int {
	return []int{math.MinInt, math.MinInt + 1, math.MinInt32, -257, -256, -255, -254, -128, 256, 257, 261, 511, 512, 1 << 16, 1 << 31, 1<<32 + 5, math.MaxInt - 1, math.MaxInt}
}

func TestExamples(t *testing.T) {
	s := first()
	b := well(t, s)
	if !bytes.Equal(b[:14], []byte{83, 7, 0, 0, 0, 1, 0, 0, 0, 44, 1, 0, 0, 5}) {
		t.Error(b)
	}
	none(t, nil, api.ErrSum)
	none(t, b[:1], api.ErrText)
	s.Age = 0
	refused(t, s)
	s = first()
	s.Seq = 1<<31 + 1
	refused(t, s)
	s = first()
	s.Tail = 255
	refused(t, s)
}

// P10.1: Age and Seq at their edges and beside them, each with each, and all places of the ring, with three beside it.
func TestBounds(t *testing.T) {
	edges := []uint32{0, 1, 2, 3, 1<<31 - 1, 1 << 31, 1<<31 + 1, 1<<31 + 2, math.MaxUint32}
	for _, age := range edges {
		for _, seq := range edges {
			for tail := -3; tail <= 257; tail++ {
				asked(t, api.Super{Id: age ^ seq, Age: age, Seq: seq, Tail: tail})
			}
		}
	}
}

// P10.1: Id is any; each bit of the great numbers, and each two of them.
func TestGreatNumbers(t *testing.T) {
	for _, s := range some() {
		for _, n := range great() {
			m := s
			m.Id = n
			well(t, m)
			m = s
			m.Age = n
			asked(t, m)
			m = s
			m.Seq = n
			asked(t, m)
		}
	}
	s := first()
	for _, s.Age = range great() {
		for _, s.Seq = range great() {
			s.Id = s.Age + s.Seq
			asked(t, s)
		}
	}
}

// P10.1 and P1: places far off, with all else as it may be and as it may not.
func TestFarNumbers(t *testing.T) {
	for _, s := range some() {
		for _, s.Tail = range far() {
			refused(t, s)
			refused(t, api.Super{Tail: s.Tail})
			refused(t, api.Super{Age: 1, Tail: s.Tail})
			refused(t, api.Super{Seq: 1, Tail: s.Tail})
		}
	}
	refused(t, api.Super{})
	refused(t, api.Super{Id: 7})
}

// P10.2: what is no block is told as such, also where its bytes are a super's or a super's are among them.
func TestNoBlock(t *testing.T) {
	for _, s := range some() {
		long := bytes.Repeat(laid(s), 4)
		for n := range long {
			if n != 0 && n != 128 {
				none(t, long[:n], api.ErrText)
				none(t, make([]byte, n), api.ErrText)
			}
		}
		none(t, long, api.ErrText)
		none(t, long[:0], api.ErrSum)
	}
	none(t, nil, api.ErrSum)
	none(t, make([]byte, 128), api.ErrSum)
	none(t, summed(make([]byte, 128)), api.ErrSum)
}

// P10.2: each byte ahead of the sum as each that it may be, with the right sum.
func TestEachByte(t *testing.T) {
	for _, s := range some() {
		was, supers := laid(s), 0
		for at := range 124 {
			for x := range 256 {
				b := bytes.Clone(was)
				b[at] = byte(x)
				if seen(t, summed(b)) {
					supers++
				}
			}
		}
		if supers < 4*256+255 { // any byte of the Id is one, and all but one of the Tail
			t.Errorf("%+v: %d supers", s, supers)
		}
	}
}

// P10.2: each two bytes of the numbers, and of the noughts next to them, as some that they may be, with the right sum.
func TestTwoBytes(t *testing.T) {
	edges := []byte{0, 1, 2, 5, 14, 76, 78, 82, 83, 84, 127, 128, 129, 253, 254, 255}
	for _, s := range some() {
		for at := range 16 {
			for by := range at {
				for _, x := range edges {
					for _, y := range edges {
						b := laid(s)
						b[at], b[by] = x, y
						seen(t, summed(b))
					}
				}
			}
		}
	}
}

// P10.2: Age and Seq as each of the great numbers, and the Tail as each byte, with the right sum.
func TestReadNumbers(t *testing.T) {
	for _, s := range some() {
		b := laid(s)
		for _, n := range great() {
			for at := 1; at <= 9; at += 4 {
				c := bytes.Clone(b)
				binary.LittleEndian.PutUint32(c[at:], n)
				seen(t, summed(c))
			}
		}
		for x := range 256 {
			b[13] = byte(x)
			if seen(t, summed(b)) != (x < 255) {
				t.Fatalf("%+v with Tail %d", s, x)
			}
		}
	}
}

// P10.2, P1 and W7: on any bytes there is an answer; with the right sum, too, behind a super's first byte and ahead of its noughts.
func TestAnyBytes(t *testing.T) {
	n, supers := uint64(88172645463325252), 0
	b := make([]byte, 128)
	for range 20000 {
		for i := range b {
			n = chance(n)
			b[i] = byte(n >> 32)
		}
		seen(t, b)
		seen(t, summed(b))
		c := bytes.Clone(b)
		clear(c[14:])
		c[0] = 83
		if seen(t, summed(c)) {
			supers++
		}
	}
	if supers < 4000 { // Age and Seq are each as they may be in half of them
		t.Errorf("only %d are supers", supers)
	}
}

// P10.2: a sum of other bytes, or one laid otherwise, is wrong.
func TestOtherSums(t *testing.T) {
	for _, s := range some() {
		was := laid(s)
		for _, n := range []int{0, 1, 14, 123, 125, 128} {
			b := bytes.Clone(was)
			binary.LittleEndian.PutUint32(b[124:], total(was[:n]))
			seen(t, b)
		}
		b := bytes.Clone(was)
		binary.BigEndian.PutUint32(b[124:], total(was[:124]))
		seen(t, b)
		binary.LittleEndian.PutUint32(b[124:], crc32.ChecksumIEEE(was[:124]))
		seen(t, b)
		binary.LittleEndian.PutUint32(b[124:], ^total(was[:124]))
		seen(t, b)
		clear(b[124:])
		seen(t, b)
	}
}

// P10.3: what is handed in is only read, on either side of it too.
func TestOnlyRead(t *testing.T) {
	for _, s := range some() {
		for _, n := range []int{0, 1, 127, 128, 129} {
			all := bytes.Repeat(laid(s), 3)
			was := bytes.Clone(all)
			super.Read(all[128 : 128+n])
			all[128+50] ^= 1 // with a wrong sum
			super.Read(all[128 : 128+n])
			all[128+50] ^= 1
			if !bytes.Equal(all, was) {
				t.Fatalf("%d bytes that were handed in are others", n)
			}
		}
	}
}

// P10.3: what is answered shares nothing with another answer; a super is not the block that it was read of.
func TestNewMemory(t *testing.T) {
	for _, s := range some() {
		a, _ := super.Write(s)
		b, _ := super.Write(s)
		clear(b[:cap(b)])
		if !bytes.Equal(a, laid(s)) {
			t.Fatal("an answer shares its bytes")
		}
		r, _ := super.Read(a)
		clear(a[:cap(a)])
		if r != s {
			t.Fatal("a super is its block")
		}
		well(t, s)
	}
}

// P10.3: whatever was asked ahead, and however often, the answer is the same.
func TestAgain(t *testing.T) {
	was := make([][]byte, len(some()))
	for i, s := range some() {
		was[i] = laid(s)
	}
	for range 200 {
		for i, s := range some() {
			refused(t, api.Super{Age: s.Age})
			none(t, was[i][1:], api.ErrText)
			none(t, nil, api.ErrSum)
			if r, e := super.Read(was[i]); r != s || e != api.OK {
				t.Fatalf("%+v: read as %+v, error %d", s, r, e)
			}
		}
	}
}

// P10.4: unlike supers have unlike blocks: those that differ in one number, and in two by turns.
func TestUnlike(t *testing.T) {
	had := map[string]api.Super{}
	add := func(s api.Super) {
		if !mayBe(s) {
			return
		}
		b := string(well(t, s))
		if r, ok := had[b]; ok && r != s {
			t.Fatalf("%+v and %+v have one block", s, r)
		}
		had[b] = s
	}
	for _, s := range some() {
		for _, n := range great() {
			add(api.Super{Id: n, Age: s.Age, Seq: s.Seq, Tail: s.Tail})
			add(api.Super{Id: s.Id, Age: n, Seq: s.Seq, Tail: s.Tail})
			add(api.Super{Id: s.Id, Age: s.Age, Seq: n, Tail: s.Tail})
			add(api.Super{Id: n, Age: s.Seq, Seq: s.Age, Tail: s.Tail})
		}
		for s.Tail = range 255 {
			add(s)
		}
	}
}

// P10.4: a super's block of which up to four bytes side by side, all ahead of the sum or all its own, are turned is none. All that one byte may be, and of two to four bytes each two bits, all bits, and samples.
func TestTurned(t *testing.T) {
	for _, s := range some() {
		was := laid(s)
		for at := range 125 {
			if at > 120 && at < 124 {
				continue // some of these four are ahead of the sum, and some its own
			}
			n := uint64(at + 1)
			for i := range 32 {
				for k := range i + 1 {
					turned(t, was, at, 1<<i|1<<k)
				}
				n = chance(n)
				turned(t, was, at, uint32(n>>16)|1)
			}
			turned(t, was, at, math.MaxUint32)
		}
		for at := range was {
			for x := 1; x < 256; x++ {
				b := bytes.Clone(was)
				b[at] ^= byte(x)
				none(t, b, api.ErrSum)
			}
		}
	}
}

// turned holds the block, four bytes of which are turned by these bits, to be none.
func turned(t *testing.T, was []byte, at int, x uint32) {
	t.Helper()
	b := bytes.Clone(was)
	binary.LittleEndian.PutUint32(b[at:], binary.LittleEndian.Uint32(b[at:])^x)
	none(t, b, api.ErrSum)
}

// P10.4: supers that differ in one great number alone differ in four bytes side by side: none has another one's sum.
func TestSumsOfOthers(t *testing.T) {
	for _, s := range some() {
		was := laid(s)
		for _, n := range great() {
			for at := 1; at <= 9; at += 4 {
				b := bytes.Clone(was)
				binary.LittleEndian.PutUint32(b[at:], n)
				if !bytes.Equal(b, was) {
					none(t, b, api.ErrSum)
				}
			}
		}
	}
}

// P10.4, whole: what the 32 bits of any four bytes side by side turn in the sum is of rank 32, so that no turn of them leaves it as it was.
func TestTurnedWhole(t *testing.T) {
	was := well(t, first())
	for at := range 121 {
		var rows [32]uint32
		for i := range rows {
			b := bytes.Clone(was)
			b[at+i/8] ^= 1 << (i % 8)
			rows[i] = total(b[:124]) ^ binary.LittleEndian.Uint32(was[124:])
		}
		if rank(rows) != 32 {
			t.Fatalf("four bytes at %d: rank %d", at, rank(rows))
		}
	}
}

// rank is how many of the rows are not made of others by exclusive or.
func rank(rows [32]uint32) int {
	n := 0
	for i := range rows {
		if rows[i] == 0 {
			continue
		}
		n++
		low := bits.TrailingZeros32(rows[i])
		for k := i + 1; k < 32; k++ {
			if rows[k]>>low&1 == 1 {
				rows[k] ^= rows[i]
			}
		}
	}
	return n
}

// P10.4: no super's block is a label's, and no label's a super's, also where but the first byte tells them apart.
func TestNoLabel(t *testing.T) {
	labels := 0
	for members := 3; members <= 16; members++ {
		for chunk := 1; chunk <= 8; chunk++ {
			for _, events := range great() {
				l := api.Label{Id: 7, Events: events, Members: members, Chunk: chunk, Rows: 1, Log: 255, Me: members - 1, Lost: 0, Done: chunk, Open: true}
				b, e := label.Write(l)
				if e != api.OK {
					continue
				}
				labels++
				none(t, b, api.ErrSum)
				b[0] = 83
				seen(t, summed(b))
			}
		}
	}
	if labels == 0 {
		t.Error("no label was asked")
	}
	for _, s := range some() {
		b := well(t, s)
		b[0] = 76
		none(t, summed(b), api.ErrSum)
	}
}
