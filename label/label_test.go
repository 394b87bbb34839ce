package label_test

import (
	"bytes"
	"encoding/binary"
	"hash/crc32"
	"math"
	"math/bits"
	"testing"

	"freeboard/api"
	"freeboard/label"
)

// first is the label of the chapter's examples.
func first() api.Label {
	return api.Label{Id: 7, Events: 2, Members: 3, Chunk: 1, Rows: 1, Log: 12, Me: 1, Lost: api.NoMember, Open: true}
}

// some are labels that may be, with the edges of each number among them.
func some() []api.Label {
	return []api.Label{
		first(),
		{Members: 3, Chunk: 1, Rows: 1, Log: 12, Lost: -1},
		{Id: math.MaxUint32, Events: 1 << 31, Members: 16, Chunk: 8, Rows: 8, Log: 255, Me: 15, Lost: 15, Done: 64, Open: true},
		{Id: 0x04030201, Events: 0x08070605, Members: 9, Chunk: 7, Rows: 3, Log: 77, Me: 5, Lost: 6, Done: 20},
		{Id: 0x81929394, Events: 1<<31 - 1, Members: 4, Chunk: 2, Rows: 8, Log: 254, Me: 0, Lost: 0, Done: 0, Open: true},
		{Id: 1 << 31, Events: 1, Members: 5, Chunk: 8, Rows: 2, Log: 18, Me: 4, Lost: 2, Done: 16, Open: true},
	}
}

// total is the sum of bytes.
func total(b []byte) uint32 {
	return crc32.Checksum(b, crc32.MakeTable(crc32.Castagnoli))
}

// summed is the block with its first 124 bytes' sum.
func summed(b []byte) []byte {
	out := bytes.Clone(b)
	binary.LittleEndian.PutUint32(out[124:], total(out[:124]))
	return out
}

// laid is a label's block, byte by byte.
func laid(l api.Label) []byte {
	b := make([]byte, 128)
	b[0] = 76
	binary.LittleEndian.PutUint32(b[1:], l.Id)
	binary.LittleEndian.PutUint32(b[5:], l.Events)
	for i, n := range []int{l.Members, l.Chunk, l.Rows, l.Log, l.Me, l.Lost, l.Done} {
		b[9+i] = byte(n)
	}
	if l.Open {
		b[16] = 1
	}
	return summed(b)
}

// stripes are counted one by one; numbers far off have none.
func stripes(l api.Label) int {
	if l.Chunk > 8 || l.Rows > 8 {
		return 0
	}
	n := 0
	for range l.Rows {
		for range l.Chunk {
			n++
		}
	}
	return n
}

// mayBe tells by the chapter's words whether a label may be.
func mayBe(l api.Label) bool {
	if l.Members < 3 || l.Members > 16 || l.Chunk < 1 || l.Chunk > 8 || l.Rows < 1 || l.Rows > 8 {
		return false
	}
	if l.Log < 3*(l.Members+1) || l.Log > 255 || l.Events > 1<<31 || l.Me < 0 || l.Me > l.Members-1 {
		return false
	}
	if l.Lost == -1 {
		return l.Done == 0
	}
	return l.Lost >= 0 && l.Lost <= l.Members-1 && l.Done >= 0 && l.Done <= stripes(l)
}

// told is the label that a block tells by the chapter's words, whether or not it may be: the last result tells whether all else of the block is as it is to be.
func told(b []byte) (api.Label, bool) {
	if len(b) != 128 || b[0] != 76 || b[16] > 1 || binary.LittleEndian.Uint32(b[124:]) != total(b[:124]) {
		return api.Label{}, false
	}
	for _, x := range b[17:124] {
		if x != 0 {
			return api.Label{}, false
		}
	}
	l := api.Label{
		Id: binary.LittleEndian.Uint32(b[1:]), Events: binary.LittleEndian.Uint32(b[5:]),
		Members: int(b[9]), Chunk: int(b[10]), Rows: int(b[11]), Log: int(b[12]), Me: int(b[13]), Lost: int(b[14]), Done: int(b[15]),
		Open: b[16] == 1,
	}
	if b[14] == 255 {
		l.Lost = -1
	}
	return l, true
}

// well holds a label to be one that may be, whose block is this one, which is read as it.
func well(t *testing.T, l api.Label) []byte {
	t.Helper()
	if e := label.Check(l); e != api.OK {
		t.Fatalf("%+v: Check is %d", l, e)
	}
	b, e := label.Write(l)
	if e != api.OK || !bytes.Equal(b, laid(l)) {
		t.Fatalf("%+v: Write is %v, error %d", l, b, e)
	}
	if m, e := label.Read(b); m != l || e != api.OK {
		t.Fatalf("%+v: read as %+v, error %d", l, m, e)
	}
	return b
}

// refused holds a label to be one that may not be.
func refused(t *testing.T, l api.Label) {
	t.Helper()
	if e := label.Check(l); e != api.ErrBad {
		t.Fatalf("%+v: Check is %d, not ErrBad", l, e)
	}
	if b, e := label.Write(l); b != nil || e != api.ErrBad {
		t.Fatalf("%+v: Write is %v, error %d, not ErrBad", l, b, e)
	}
}

// asked holds Check and Write to answer of a label what the chapter's words tell.
func asked(t *testing.T, l api.Label) {
	t.Helper()
	if mayBe(l) {
		well(t, l)
		return
	}
	refused(t, l)
}

// none holds Read to answer this error and nothing else.
func none(t *testing.T, b []byte, want api.Errno) {
	t.Helper()
	if l, e := label.Read(b); l != (api.Label{}) || e != want {
		t.Fatalf("Read of %v is %+v, error %d, not %d", b, l, e, want)
	}
}

// seen holds Read to answer of a block of Size bytes what the chapter's words tell; it tells whether it is a label's.
func seen(t *testing.T, b []byte) bool {
	t.Helper()
	l, ok := told(b)
	if !ok || !mayBe(l) {
		none(t, b, api.ErrSum)
		return false
	}
	if m, e := label.Read(b); m != l || e != api.OK {
		t.Fatalf("Read of %v is %+v, error %d, not %+v", b, m, e, l)
	}
	if w := well(t, l); !bytes.Equal(w, b) {
		t.Fatalf("what is read of %v is written as %v", b, w)
	}
	return true
}

// chance goes on from a number to one that seems to have nothing to do with it.
func chance(n uint64) uint64 {
	n ^= n << 13
	n ^= n >> 7
	return n ^ n<<17
}

// far are numbers far from all bounds.
func far() []int {
	return []int{math.MinInt, math.MinInt + 1, math.MinInt32, -257, -256, -255, -254, -241, -128, 256, 257, 258, 259, 267, 511, 1 << 16, 1 << 31, 1<<32 + 3, 1<<32 + 12, math.MaxInt - 1, math.MaxInt}
}

// fields are the label's numbers that are ints.
func fields(l *api.Label) []*int {
	return []*int{&l.Members, &l.Chunk, &l.Rows, &l.Log, &l.Me, &l.Lost, &l.Done}
}

// arrays goes through all Members, Chunk and Rows up to so many beside their bounds.
func arrays(beside int, do func(api.Label)) {
	for members := 3 - beside; members <= 16+beside; members++ {
		for chunk := 1 - beside; chunk <= 8+beside; chunk++ {
			for rows := 1 - beside; rows <= 8+beside; rows++ {
				do(api.Label{Id: 9, Events: 3, Members: members, Chunk: chunk, Rows: rows, Log: 255, Lost: -1, Open: rows%2 == 0})
			}
		}
	}
}

func TestExamples(t *testing.T) {
	l := first()
	b := well(t, l)
	if !bytes.Equal(b[:17], []byte{76, 7, 0, 0, 0, 2, 0, 0, 0, 3, 1, 1, 12, 1, 255, 0, 1}) {
		t.Error(b)
	}
	none(t, nil, api.ErrSum)
	none(t, b[:127], api.ErrText)
	l.Me = 3
	refused(t, l)
	l.Me, l.Done = 1, 1
	refused(t, l)
	l.Lost = 1
	well(t, l)
}

// P9.1: all arrays about the bounds, with all rings about theirs.
func TestArrays(t *testing.T) {
	arrays(2, func(l api.Label) {
		least := 3 * (l.Members + 1)
		for _, l.Log = range []int{-1, 0, 1, 11, least - 1, least, least + 1, 100, 254, 255, 256} {
			asked(t, l)
		}
	})
	l := first()
	for l.Members = 3; l.Members <= 16; l.Members++ {
		for l.Log = -2; l.Log <= 258; l.Log++ {
			asked(t, l)
		}
	}
}

// P9.1: who has the label, who is lost, and how far a spare is made, about the bounds of all arrays.
func TestMembers(t *testing.T) {
	arrays(0, func(l api.Label) {
		all := stripes(l)
		for l.Lost = -3; l.Lost <= l.Members+1; l.Lost++ {
			for _, l.Done = range []int{-1, 0, 1, all - 1, all, all + 1} {
				l.Me = max(l.Lost, 0)
				asked(t, l)
				l.Me = 0
				asked(t, l)
			}
		}
		l.Lost, l.Done = 0, all
		for l.Me = -2; l.Me <= l.Members+1; l.Me++ {
			asked(t, l)
		}
	})
}

// P9.1: all of a small array's and of the greatest one's, each with each.
func TestMembersWhole(t *testing.T) {
	for _, l := range []api.Label{first(), some()[2]} {
		for l.Me = -2; l.Me <= l.Members+1; l.Me++ {
			for l.Lost = -3; l.Lost <= l.Members+1; l.Lost++ {
				for l.Done = -2; l.Done <= stripes(l)+2; l.Done++ {
					asked(t, l)
				}
			}
		}
	}
}

// P9.1: Id is any, Events at most 2^31; each bit of both, and Open.
func TestGreatNumbers(t *testing.T) {
	for _, l := range some() {
		for i := range 33 {
			for _, n := range []uint64{1<<i - 1, 1 << i, 1<<i + 1, 1<<32 - 1 - 1<<i} {
				m := l
				m.Id = uint32(n)
				asked(t, m)
				m.Open = !m.Open
				asked(t, m)
				m = l
				m.Events = uint32(n)
				asked(t, m)
			}
		}
	}
	l := first()
	l.Events = 1 << 31
	well(t, l)
	for _, l.Events = range []uint32{1<<31 + 1, 1<<31 + 2, 1<<31 + 1<<30, math.MaxUint32} {
		refused(t, l)
	}
}

// P9.1 and P1: numbers far off in each field, and in each two of them.
func TestFarNumbers(t *testing.T) {
	for _, l := range some() {
		for i := range fields(&l) {
			for k := range fields(&l) {
				for _, n := range far() {
					for _, o := range far() {
						m := l
						*fields(&m)[i], *fields(&m)[k] = n, o
						refused(t, m)
					}
				}
			}
		}
	}
	refused(t, api.Label{})
	refused(t, api.Label{Lost: -1})
}

// P9.1: with NoMember nothing is done, whatever else; 255 is a place's byte, no member.
func TestNobody(t *testing.T) {
	arrays(0, func(l api.Label) {
		well(t, l)
		for l.Done = 1; l.Done <= stripes(l)+1; l.Done++ {
			refused(t, l)
		}
		l.Done = -1
		refused(t, l)
		l.Lost, l.Done = 255, 0
		refused(t, l)
	})
}

// P9.2: what is no block is told as such, also where its bytes are a label's or a label's are among them.
func TestNoBlock(t *testing.T) {
	for _, l := range some() {
		long := bytes.Repeat(laid(l), 4)
		for n := range long {
			if n != 0 && n != 128 {
				none(t, long[:n], api.ErrText)
				none(t, make([]byte, n), api.ErrText)
			}
		}
		none(t, long, api.ErrText)
		none(t, long[:0], api.ErrSum)
	}
	none(t, nil, api.ErrSum)
	none(t, make([]byte, 128), api.ErrSum)
	none(t, summed(make([]byte, 128)), api.ErrSum)
}

// P9.2: each byte ahead of the sum as each that it may be, with the right sum.
func TestEachByte(t *testing.T) {
	for _, l := range some() {
		was, labels := laid(l), 0
		for at := range 124 {
			for x := range 256 {
				b := bytes.Clone(was)
				b[at] = byte(x)
				if seen(t, summed(b)) {
					labels++
				}
			}
		}
		if labels < 4*256 { // any byte of the Id is one
			t.Errorf("%+v: %d labels", l, labels)
		}
	}
}

// P9.2: each two bytes of the numbers as some that they may be, with the right sum.
func TestTwoBytes(t *testing.T) {
	edges := []byte{0, 1, 2, 3, 4, 8, 9, 11, 12, 15, 16, 17, 64, 65, 75, 76, 77, 127, 128, 129, 254, 255}
	for _, l := range some() {
		for at := range 18 {
			for by := range at {
				for _, x := range edges {
					for _, y := range edges {
						b := laid(l)
						b[at], b[by] = x, y
						seen(t, summed(b))
					}
				}
			}
		}
	}
}

// P9.2: numbers that bound one another, each with each, with the right sum.
func TestReadArrays(t *testing.T) {
	b := laid(first())
	for _, b[9] = range []byte{0, 2, 3, 4, 16, 17, 255} {
		for _, b[12] = range []byte{0, 11, 12, 14, 15, 50, 51, 254, 255} {
			for _, b[13] = range []byte{0, 2, 3, 15, 16, 255} {
				for _, b[14] = range []byte{0, 2, 3, 15, 16, 254, 255} {
					for b[15] = range byte(4) {
						seen(t, summed(b))
					}
				}
			}
		}
	}
}

// P9.2, P1 and W7: on any bytes there is an answer; with the right sum, too, behind a label's first ones.
func TestAnyBytes(t *testing.T) {
	n := uint64(88172645463325252)
	b := make([]byte, 128)
	for range 20000 {
		for i := range b {
			n = chance(n)
			b[i] = byte(n >> 32)
		}
		seen(t, b)
		seen(t, summed(b))
		c := bytes.Clone(b)
		clear(c[17:])
		c[0] = 76
		seen(t, summed(c))
	}
}

// P9.2: a sum of other bytes, or one laid otherwise, is wrong.
func TestOtherSums(t *testing.T) {
	for _, l := range some() {
		was := laid(l)
		for _, n := range []int{0, 17, 123, 125, 128} {
			b := bytes.Clone(was)
			binary.LittleEndian.PutUint32(b[124:], total(was[:n]))
			seen(t, b)
		}
		b := bytes.Clone(was)
		binary.BigEndian.PutUint32(b[124:], total(was[:124]))
		seen(t, b)
		binary.LittleEndian.PutUint32(b[124:], crc32.ChecksumIEEE(was[:124]))
		seen(t, b)
		binary.LittleEndian.PutUint32(b[124:], ^total(was[:124]))
		seen(t, b)
		clear(b[124:])
		seen(t, b)
	}
}

// P9.3: what is handed in is only read, on either side of it too.
func TestOnlyRead(t *testing.T) {
	for _, l := range some() {
		for _, n := range []int{0, 1, 127, 128, 129} {
			all := bytes.Repeat(laid(l), 3)
			was := bytes.Clone(all)
			label.Read(all[128 : 128+n])
			all[128+50] ^= 1 // with a wrong sum
			label.Read(all[128 : 128+n])
			all[128+50] ^= 1
			if !bytes.Equal(all, was) {
				t.Fatalf("%d bytes that were handed in are others", n)
			}
		}
	}
}

// P9.3: what is answered shares nothing with another answer; a label is not the block that it was read of.
func TestNewMemory(t *testing.T) {
	for _, l := range some() {
		a, _ := label.Write(l)
		b, _ := label.Write(l)
		clear(b[:cap(b)])
		if !bytes.Equal(a, laid(l)) {
			t.Fatal("an answer shares its bytes")
		}
		m, _ := label.Read(a)
		clear(a[:cap(a)])
		if m != l {
			t.Fatal("a label is its block")
		}
		well(t, l)
	}
}

// P9.4: unlike labels have unlike blocks: those that differ in one number, and all of a small array.
func TestUnlike(t *testing.T) {
	had := map[string]api.Label{}
	add := func(l api.Label) {
		if !mayBe(l) {
			return
		}
		b := string(well(t, l))
		if m, ok := had[b]; ok && m != l {
			t.Fatalf("%+v and %+v have one block", l, m)
		}
		had[b] = l
	}
	for _, l := range some() {
		for i := range 32 {
			m := l
			m.Id ^= 1 << i
			add(m)
			m = l
			m.Events ^= 1 << i
			add(m)
		}
		for i := range fields(&l) {
			for n := -1; n <= 256; n++ {
				m := l
				*fields(&m)[i] = n
				add(m)
				m.Open = !m.Open
				add(m)
			}
		}
	}
	l := api.Label{Members: 3, Chunk: 2, Rows: 1, Log: 12}
	for _, l.Open = range []bool{false, true} {
		for l.Me = range 3 {
			for l.Lost = -1; l.Lost < 3; l.Lost++ {
				for l.Done = range 3 {
					add(l)
				}
			}
		}
	}
}

// P9.4: a label's block of which up to four bytes side by side, all ahead of the sum or all its own, are turned is none. All that one byte may be, and of two to four bytes each two bits, all bits, and samples.
func TestTurned(t *testing.T) {
	for _, l := range some() {
		was := laid(l)
		for at := range 125 {
			if at > 120 && at < 124 {
				continue // some of these four are ahead of the sum, and some its own
			}
			n := uint64(at + 1)
			for i := range 32 {
				for k := range i + 1 {
					turned(t, was, at, 1<<i|1<<k)
				}
				n = chance(n)
				turned(t, was, at, uint32(n>>16)|1)
			}
			turned(t, was, at, math.MaxUint32)
		}
		for at := range was {
			for x := 1; x < 256; x++ {
				b := bytes.Clone(was)
				b[at] ^= byte(x)
				none(t, b, api.ErrSum)
			}
		}
	}
}

// turned holds the block, four bytes of which are turned by these bits, to be none.
func turned(t *testing.T, was []byte, at int, x uint32) {
	t.Helper()
	b := bytes.Clone(was)
	binary.LittleEndian.PutUint32(b[at:], binary.LittleEndian.Uint32(b[at:])^x)
	none(t, b, api.ErrSum)
}

// P9.4, whole: what the 32 bits of any four bytes side by side turn in the sum is of rank 32, so that no turn of them leaves it as it was.
func TestTurnedWhole(t *testing.T) {
	l := first()
	for at := range 121 {
		var rows [32]uint32
		for i := range rows {
			b := laid(l)
			b[at+i/8] ^= 1 << (i % 8)
			rows[i] = total(b[:124]) ^ total(laid(l)[:124])
		}
		if rank(rows) != 32 {
			t.Fatalf("four bytes at %d: rank %d", at, rank(rows))
		}
	}
}

// rank is how many of the rows are not made of others by exclusive or.
func rank(rows [32]uint32) int {
	n := 0
	for i := range rows {
		if rows[i] == 0 {
			continue
		}
		n++
		low := bits.TrailingZeros32(rows[i])
		for k := i + 1; k < 32; k++ {
			if rows[k]>>low&1 == 1 {
				rows[k] ^= rows[i]
			}
		}
	}
	return n
}
