package note_test

import (
	"bytes"
	"encoding/binary"
	"hash/crc32"
	"math"
	"math/bits"
	"slices"
	"testing"

	"freeboard/api"
	"freeboard/label"
	"freeboard/note"
	"freeboard/super"
)

// first is the note of the chapter's examples.
func first() api.Note {
	return api.Note{Id: 7, Age: 1, Seq: 2, Stripe: 3, Records: []api.Record{{Slot: 0, Bare: true, Sum: 5}, {Slot: 255, Sum: 256}}}
}

// of are records of these slots, each of which has a sum of its own; every third one is bare.
func of(slots ...uint8) []api.Record {
	var l []api.Record
	for i, s := range slots {
		l = append(l, api.Record{Slot: s, Bare: i%3 == 1, Sum: uint32(i+1)*0x9e3779b9 + uint32(s)})
	}
	return l
}

// all are the slots that the greatest note has.
func all() []uint8 {
	return []uint8{0, 1, 2, 3, 4, 5, 6, 7, 8, 9, 10, 11, 12, 13, 14, 255}
}

// some are notes that may be, with the edges of each number among them.
func some() []api.Note {
	return []api.Note{
		first(),
		{Id: 0, Age: 1, Seq: 1, Stripe: 0, Records: []api.Record{{}}},
		{Id: math.MaxUint32, Age: 1 << 31, Seq: 1 << 31, Stripe: 63, Records: of(all()...)},
		{Id: 0x04030201, Age: 0x08070605, Seq: 0x0c0b0a09, Stripe: 13, Records: []api.Record{{Slot: 14, Bare: true, Sum: math.MaxUint32}}},
		{Id: 0x81929394, Age: 1<<31 - 1, Seq: 1, Stripe: 62, Records: []api.Record{{Slot: 14}, {Slot: 255, Bare: true, Sum: 1 << 31}}},
		{Id: 1 << 31, Age: 1, Seq: 1<<31 - 1, Stripe: 1, Records: of(all()[:15]...)},
		{Id: 78, Age: 78, Seq: 78, Stripe: 15, Records: of(1, 3, 7, 13)},
	}
}

// twin is a note that shares nothing with n.
func twin(n api.Note) api.Note {
	n.Records = slices.Clone(n.Records)
	return n
}

// like tells whether two notes are the same, field by field.
func like(a, b api.Note) bool {
	if a.Id != b.Id || a.Age != b.Age || a.Seq != b.Seq || a.Stripe != b.Stripe || len(a.Records) != len(b.Records) {
		return false
	}
	for i, r := range a.Records {
		if s := b.Records[i]; r.Slot != s.Slot || r.Bare != s.Bare || r.Sum != s.Sum {
			return false
		}
	}
	return true
}

// total is the sum of bytes.
func total(b []byte) uint32 {
	return crc32.Checksum(b, crc32.MakeTable(crc32.Castagnoli))
}

// summed is the block with its first 124 bytes' sum.
func summed(b []byte) []byte {
	out := bytes.Clone(b)
	binary.LittleEndian.PutUint32(out[124:], total(out[:124]))
	return out
}

// laid is a note's block, byte by byte.
func laid(n api.Note) []byte {
	b := []byte{78}
	b = binary.LittleEndian.AppendUint32(b, n.Id)
	b = binary.LittleEndian.AppendUint32(b, n.Age)
	b = binary.LittleEndian.AppendUint32(b, n.Seq)
	b = append(b, byte(n.Stripe), byte(len(n.Records)))
	for _, r := range n.Records {
		b = append(b, r.Slot, 0)
		if r.Bare {
			b[len(b)-1] = 1
		}
		b = binary.LittleEndian.AppendUint32(b, r.Sum)
	}
	return summed(append(b, make([]byte, 128-len(b))...))
}

// mayBe tells by the chapter's words whether a note may be.
func mayBe(n api.Note) bool {
	if n.Age == 0 || n.Age > 1<<31 || n.Seq == 0 || n.Seq > 1<<31 || n.Stripe < 0 || n.Stripe > 63 {
		return false
	}
	l := n.Records
	if len(l) == 0 || len(l) > 16 {
		return false
	}
	for i := 1; i < len(l); i++ {
		if l[i].Slot <= l[i-1].Slot {
			return false
		}
	}
	if len(l) > 1 && l[len(l)-1].Slot == 255 {
		l = l[:len(l)-1]
	}
	for _, r := range l {
		if r.Slot > 14 {
			return false
		}
	}
	return true
}

// told is the note that a block tells by the chapter's words, whether or not it may be: the last result tells whether all else of the block is as it is to be.
func told(b []byte) (api.Note, bool) {
	if len(b) != 128 || b[0] != 78 || b[14] > 16 || binary.LittleEndian.Uint32(b[124:]) != total(b[:124]) {
		return api.Note{}, false
	}
	n := api.Note{
		Id: binary.LittleEndian.Uint32(b[1:]), Age: binary.LittleEndian.Uint32(b[5:]),
		Seq: binary.LittleEndian.Uint32(b[9:]), Stripe: int(b[13]),
	}
	rest := b[15:124]
	for range b[14] {
		if rest[1] > 1 {
			return api.Note{}, false
		}
		n.Records = append(n.Records, api.Record{Slot: rest[0], Bare: rest[1] == 1, Sum: binary.LittleEndian.Uint32(rest[2:])})
		rest = rest[6:]
	}
	for _, x := range rest {
		if x != 0 {
			return api.Note{}, false
		}
	}
	return n, true
}

// well holds a note to be one that may be, whose block is this one, which is read as it.
func well(t *testing.T, n api.Note) []byte {
	t.Helper()
	if e := note.Check(n); e != api.OK {
		t.Fatalf("%+v: Check is %d", n, e)
	}
	b, e := note.Write(n)
	if e != api.OK || !bytes.Equal(b, laid(n)) {
		t.Fatalf("%+v: Write is %v, error %d", n, b, e)
	}
	if r, e := note.Read(b); !like(r, n) || e != api.OK {
		t.Fatalf("%+v: read as %+v, error %d", n, r, e)
	}
	return b
}

// refused holds a note to be one that may not be.
func refused(t *testing.T, n api.Note) {
	t.Helper()
	if e := note.Check(n); e != api.ErrBad {
		t.Fatalf("%+v: Check is %d, not ErrBad", n, e)
	}
	if b, e := note.Write(n); b != nil || e != api.ErrBad {
		t.Fatalf("%+v: Write is %v, error %d, not ErrBad", n, b, e)
	}
}

// asked holds Check and Write to answer of a note what the chapter's words tell; it tells whether it may be.
func asked(t *testing.T, n api.Note) bool {
	t.Helper()
	if mayBe(n) {
		well(t, n)
		return true
	}
	refused(t, n)
	return false
}

// none holds Read to answer this error and nothing else.
func none(t *testing.T, b []byte, want api.Errno) {
	t.Helper()
	if n, e := note.Read(b); n.Records != nil || !like(n, api.Note{}) || e != want {
		t.Fatalf("Read of %v is %+v, error %d, not %d", b, n, e, want)
	}
}

// seen holds Read to answer of a block of Size bytes what the chapter's words tell; it tells whether it is a note's.
func seen(t *testing.T, b []byte) bool {
	t.Helper()
	n, ok := told(b)
	if !ok || !mayBe(n) {
		none(t, b, api.ErrSum)
		return false
	}
	if r, e := note.Read(b); !like(r, n) || e != api.OK {
		t.Fatalf("Read of %v is %+v, error %d, not %+v", b, r, e, n)
	}
	if w := well(t, n); !bytes.Equal(w, b) {
		t.Fatalf("what is read of %v is written as %v", b, w)
	}
	return true
}

// chance goes on from a number to one that seems to have nothing to do with it.
func chance(n uint64) uint64 {
	n ^= n << 13
	n ^= n >> 7
	return n ^ n<<17
}

// great are numbers of four bytes: the edges, each bit, and what is beside each.
func great() []uint32 {
	l := []uint32{0, 1, 2, 254, 255, 256, math.MaxUint32}
	for i := range 32 {
		n := uint32(1) << i
		l = append(l, n-1, n, n+1, ^n)
	}
	return l
}

func TestExamples(t *testing.T) {
	n := first()
	b := well(t, n)
	if !bytes.Equal(b[:27], []byte{78, 7, 0, 0, 0, 1, 0, 0, 0, 2, 0, 0, 0, 3, 2, 0, 1, 5, 0, 0, 0, 255, 0, 0, 1, 0, 0}) {
		t.Error(b)
	}
	none(t, nil, api.ErrSum)
	none(t, b[:1], api.ErrText)
	for _, l := range [][]api.Record{nil, {}, of(255), of(1, 1), of(15)} {
		n.Records = l
		refused(t, n)
	}
}

// P11.1: Age and Seq at their edges and beside them, each with each, and all stripes, with three on either side.
func TestBounds(t *testing.T) {
	edges := []uint32{0, 1, 2, 3, 1<<31 - 1, 1 << 31, 1<<31 + 1, 1<<31 + 2, math.MaxUint32}
	for _, age := range edges {
		for _, seq := range edges {
			for stripe := -3; stripe <= 66; stripe++ {
				asked(t, api.Note{Id: age ^ seq, Age: age, Seq: seq, Stripe: stripe, Records: of(0)})
			}
			asked(t, api.Note{Age: age, Seq: seq})
		}
	}
}

// P11.1: Id is any, and so is each record's sum; each bit of the great numbers, and each two of Age and Seq.
func TestGreatNumbers(t *testing.T) {
	for _, n := range some() {
		for _, x := range great() {
			m := twin(n)
			m.Id = x
			well(t, m)
			m = twin(n)
			m.Age = x
			asked(t, m)
			m = twin(n)
			m.Seq = x
			asked(t, m)
			for i := range m.Records {
				m = twin(n)
				m.Records[i].Sum = x
				well(t, m)
				m.Records[i].Bare = !m.Records[i].Bare
				well(t, m)
			}
		}
	}
	n := first()
	for _, n.Age = range great() {
		for _, n.Seq = range great() {
			n.Id = n.Age + n.Seq
			asked(t, n)
		}
	}
}

// P11.1 and P1: stripes far off, with all else as it may be and as it may not.
func TestFarNumbers(t *testing.T) {
	for _, n := range some() {
		for _, n.Stripe = range []int{math.MinInt, math.MinInt + 1, math.MinInt32, -257, -256, -255, -193, -128, -64, 127, 128, 255, 256, 257, 259, 319, 1 << 16, 1 << 31, 1<<32 + 5, math.MaxInt - 1, math.MaxInt} {
			refused(t, n)
			refused(t, api.Note{Stripe: n.Stripe})
			refused(t, api.Note{Age: 1, Seq: 1, Stripe: n.Stripe})
			refused(t, api.Note{Stripe: n.Stripe, Records: n.Records})
		}
	}
	refused(t, api.Note{})
	refused(t, api.Note{Id: 7})
}

// P11.1: all that rise from 0 to 14, with the parity and without: 2^16 lists, of which none and the parity alone may not be.
func TestAllLists(t *testing.T) {
	good := 0
	for set := range 1 << 16 {
		var slots []uint8
		for i, s := range all() {
			if set>>i&1 == 1 {
				slots = append(slots, s)
			}
		}
		if asked(t, api.Note{Id: uint32(set), Age: 1, Seq: 1, Stripe: set % 64, Records: of(slots...)}) {
			good++
		}
	}
	if good != 1<<16-2 {
		t.Errorf("%d lists may be", good)
	}
}

// P11.1: one record of each slot, two of each two, and three of each three that are edges.
func TestSlots(t *testing.T) {
	n := api.Note{Id: 7, Age: 1, Seq: 2, Stripe: 3}
	good := 0
	ask := func(slots ...uint8) {
		n.Records = of(slots...)
		if asked(t, n) {
			good++
		}
	}
	for a := range 256 {
		ask(uint8(a))
		for b := range 256 {
			ask(uint8(a), uint8(b))
		}
	}
	if good != 15+15*14/2+15 { // one, two that rise, one and the parity
		t.Errorf("%d lists may be", good)
	}
	edges := []uint8{0, 1, 2, 13, 14, 15, 16, 127, 128, 240, 253, 254, 255}
	for _, a := range edges {
		for _, b := range edges {
			for _, c := range edges {
				ask(a, b, c)
				ask(a, b, c, 255)
				ask(a, b, c, 255, 255)
			}
		}
	}
}

// P11.1: in each list from the first slots on, with the parity or without it, each slot as each of its 256, two in each other's place, and one left out or twice there.
func TestWrongLists(t *testing.T) {
	n := api.Note{Id: 7, Age: 1, Seq: 2, Stripe: 3}
	ask := func(slots []uint8) {
		n.Records = of(slots...)
		asked(t, n)
	}
	for many := range 16 {
		for _, was := range [][]uint8{all()[:many+1], append(all()[:many], 255)} {
			for i := range was {
				for s := range 256 {
					l := slices.Clone(was)
					l[i] = uint8(s)
					ask(l)
				}
				for k := range i {
					l := slices.Clone(was)
					l[i], l[k] = l[k], l[i]
					ask(l)
				}
				ask(slices.Delete(slices.Clone(was), i, i+1))
				ask(slices.Insert(slices.Clone(was), i, was[i]))
			}
		}
	}
}

// P11.1 and P1: more records than sixteen, also far more, and as many as a byte counts from nought on again.
func TestTooMany(t *testing.T) {
	n := first()
	for _, many := range []int{17, 18, 31, 32, 33, 255, 256, 257, 258, 272, 512, 1 << 16, 1<<16 + 2} {
		rising := make([]api.Record, many)
		for i := range rising {
			rising[i].Slot = uint8(min(i, 255))
		}
		for _, l := range [][]api.Record{rising, make([]api.Record, many), append(of(all()[:15]...), rising[15:]...), append(of(all()...), rising[16:]...)} {
			n.Records = l
			refused(t, n)
			l[len(l)-1].Slot = 255
			refused(t, n)
		}
	}
	n.Records = append(of(all()[:15]...), of(14, 255)...)
	refused(t, n)
	n.Records = of(append(all(), 255)...)
	refused(t, n)
}

// same holds Same to answer this, either way.
func same(t *testing.T, a, b api.Note, want bool) {
	t.Helper()
	if note.Same(a, b) != want || note.Same(b, a) != want {
		t.Fatalf("Same of %+v and %+v is not %v", a, b, want)
	}
}

// odd are notes that may not be.
func odd() []api.Note {
	return []api.Note{
		{},
		{Id: 7, Records: of(255, 255, 3)},
		{Stripe: math.MinInt},
		{Stripe: math.MaxInt, Records: make([]api.Record, 300)},
		{Age: math.MaxUint32, Seq: math.MaxUint32, Stripe: 64, Records: of(15)},
	}
}

// P11.1: Same is of any notes: each is the same as its twin, and no other one.
func TestSame(t *testing.T) {
	l := append(some(), odd()...)
	for i, a := range l {
		for k, b := range l {
			same(t, a, twin(b), i == k)
		}
	}
	same(t, api.Note{}, api.Note{Records: []api.Record{}}, true)
	same(t, api.Note{}, api.Note{Records: make([]api.Record, 0, 9)}, true)
	same(t, api.Note{}, api.Note{Records: []api.Record{{}}}, false)
}

// P11.1: two notes that differ in one field, by whichever bit, are not the same.
func TestNotSame(t *testing.T) {
	for _, n := range append(some(), odd()...) {
		for i := range 64 {
			for _, change := range []func(m *api.Note){
				func(m *api.Note) { m.Id ^= 1 << (i % 32) },
				func(m *api.Note) { m.Age ^= 1 << (i % 32) },
				func(m *api.Note) { m.Seq ^= 1 << (i % 32) },
				func(m *api.Note) { m.Stripe ^= 1 << i },
				func(m *api.Note) { m.Records = append(m.Records, api.Record{}) },
			} {
				m := twin(n)
				change(&m)
				same(t, n, m, like(n, m))
			}
		}
		for at := range n.Records {
			for i := range 32 {
				m := twin(n)
				m.Records[at].Sum ^= 1 << i
				same(t, n, m, false)
				m = twin(n)
				m.Records[at].Slot ^= 1 << (i % 8)
				same(t, n, m, false)
			}
			m := twin(n)
			m.Records[at].Bare = !m.Records[at].Bare
			same(t, n, m, false)
			m = twin(n)
			m.Records = m.Records[:at]
			same(t, n, m, false)
			m.Records = twin(n).Records[at+1:]
			same(t, n, m, false)
			m = twin(n)
			m.Records[0], m.Records[at] = m.Records[at], m.Records[0]
			same(t, n, m, like(n, m))
		}
	}
}

// P11.2: what is no block is told as such, also where its bytes are a note's or a note's are among them.
func TestNoBlock(t *testing.T) {
	for _, n := range some() {
		long := bytes.Repeat(laid(n), 4)
		for n := range long {
			if n != 0 && n != 128 {
				none(t, long[:n], api.ErrText)
				none(t, make([]byte, n), api.ErrText)
			}
		}
		none(t, long, api.ErrText)
		none(t, long[:0], api.ErrSum)
	}
	none(t, nil, api.ErrSum)
	none(t, make([]byte, 128), api.ErrSum)
	none(t, summed(make([]byte, 128)), api.ErrSum)
}

// P11.2: each byte ahead of the sum as each that it may be, with the right sum.
func TestEachByte(t *testing.T) {
	for _, n := range some() {
		was, notes := laid(n), 0
		for at := range 124 {
			for x := range 256 {
				b := bytes.Clone(was)
				b[at] = byte(x)
				if seen(t, summed(b)) {
					notes++
				}
			}
		}
		if notes < (4+4*len(n.Records))*256 { // any byte of the Id is one's, and of each sum
			t.Errorf("%+v: %d notes", n, notes)
		}
	}
}

// P11.2: each two bytes of the numbers, of two records and of what is next to them as some that they may be, with the right sum; and the count with each byte.
func TestTwoBytes(t *testing.T) {
	edges := []byte{0, 1, 2, 3, 14, 15, 16, 63, 64, 128, 255}
	for _, n := range some() {
		two := func(at, by int) {
			for _, x := range edges {
				for _, y := range edges {
					b := laid(n)
					b[at], b[by] = x, y
					seen(t, summed(b))
				}
			}
		}
		for at := range 124 {
			for by := range min(at, 28) {
				if at < 28 || by == 14 {
					two(at, by)
				}
			}
		}
	}
}

// P11.2: the numbers ahead of the records, and each sum, as each of the great numbers, with the right sum.
func TestReadNumbers(t *testing.T) {
	for _, n := range some() {
		places := []int{1, 5, 9}
		for i := range n.Records {
			places = append(places, 17+6*i)
		}
		for _, x := range great() {
			for _, at := range places {
				b := laid(n)
				binary.LittleEndian.PutUint32(b[at:], x)
				if !seen(t, summed(b)) && at != 5 && at != 9 {
					t.Fatalf("%+v with %d at %d is none", n, x, at)
				}
			}
		}
	}
}

// P11.2: as many records as a byte counts, with all room behind it filled by records that rise, and with noughts there.
func TestCounts(t *testing.T) {
	full := laid(some()[2])
	for _, filled := range []int{0, 1, 2, 15, 16, 17, 18} {
		for many := range 256 {
			b := bytes.Clone(full)
			for i := range 18 {
				copy(b[15+6*i:124], []byte{byte(i), 1, 9, 9, 9, 9})
			}
			clear(b[15+6*filled : 124])
			b[14] = byte(many)
			want := many >= 1 && many <= 15 && (many == filled || filled == 0 && many == 1) // noughts are the first slot's record
			if seen(t, summed(b)) != want {
				t.Fatalf("%d records of which %d are told", filled, many)
			}
		}
	}
}

// P11.2, P1 and W7: on any bytes there is an answer; with the right sum, too, behind a note's first byte, and where records rise.
func TestAnyBytes(t *testing.T) {
	n, notes := uint64(88172645463325252), 0
	b := make([]byte, 128)
	for range 20000 {
		for i := range b {
			n = chance(n)
			b[i] = byte(n >> 32)
		}
		seen(t, b)
		seen(t, summed(b))
		c := bytes.Clone(b)
		c[0] = 78
		seen(t, summed(c))
		c[13], c[14] = c[13]%66, c[14]%18
		seen(t, summed(c))
		many := int(c[14])
		for i := range many {
			c[15+6*i], c[16+6*i] = byte(i), c[16+6*i]%2
		}
		seen(t, summed(c))
		clear(c[15+6*many : 124])
		if seen(t, summed(c)) {
			notes++
		}
	}
	if notes < 3000 { // Age and Seq are each as they may be in half of them, and nearly all counts
		t.Errorf("only %d are notes", notes)
	}
}

// P11.2: a sum of other bytes, or one laid otherwise, is wrong.
func TestOtherSums(t *testing.T) {
	for _, n := range some() {
		was := laid(n)
		for _, many := range []int{0, 1, 15, 15 + 6*len(n.Records), 123, 125, 128} {
			b := bytes.Clone(was)
			binary.LittleEndian.PutUint32(b[124:], total(was[:many]))
			seen(t, b)
		}
		b := bytes.Clone(was)
		binary.BigEndian.PutUint32(b[124:], total(was[:124]))
		seen(t, b)
		binary.LittleEndian.PutUint32(b[124:], crc32.ChecksumIEEE(was[:124]))
		seen(t, b)
		binary.LittleEndian.PutUint32(b[124:], ^total(was[:124]))
		seen(t, b)
		clear(b[124:])
		seen(t, b)
	}
}

// P11.3: a block that is handed in is only read, on either side of it too.
func TestBlockOnlyRead(t *testing.T) {
	for _, m := range some() {
		for _, n := range []int{0, 1, 127, 128, 129} {
			all := bytes.Repeat(laid(m), 3)
			was := bytes.Clone(all)
			note.Read(all[128 : 128+n])
			all[128+50] ^= 1 // with a wrong sum
			note.Read(all[128 : 128+n])
			all[128+50] ^= 1
			if !bytes.Equal(all, was) {
				t.Fatalf("%d bytes that were handed in are others", n)
			}
		}
	}
}

// P11.3: records that are handed in are only read, and so is what stands on either side of them.
func TestRecordsOnlyRead(t *testing.T) {
	for _, n := range append(some(), odd()...) {
		many := len(n.Records)
		all := slices.Concat(of(9, 8, 7), n.Records, of(6, 5, 4))
		was := slices.Clone(all)
		n.Records = all[3 : 3+many]
		note.Check(n)
		note.Write(n)
		note.Same(n, n)
		note.Same(n, twin(n))
		note.Same(twin(n), n)
		note.Same(n, api.Note{})
		if !slices.Equal(all, was) {
			t.Fatalf("records that were handed in are others: %v, not %v", all, was)
		}
	}
}

// P11.3: what is answered shares nothing with another answer, nor with what was handed in.
func TestNewMemory(t *testing.T) {
	for _, n := range some() {
		was := twin(n)
		a, _ := note.Write(n)
		b, _ := note.Write(n)
		clear(b[:cap(b)])
		if !bytes.Equal(a, laid(was)) || !like(n, was) {
			t.Fatal("a block shares its bytes")
		}
		clear(n.Records)
		if !bytes.Equal(a, laid(was)) {
			t.Fatal("a block is its note")
		}
		r, _ := note.Read(a)
		s, _ := note.Read(a)
		clear(s.Records[:cap(s.Records)])
		if !like(r, was) || !bytes.Equal(a, laid(was)) {
			t.Fatal("a note shares its records")
		}
		clear(a[:cap(a)])
		if !like(r, was) {
			t.Fatal("a note is its block")
		}
	}
}

// P11.3: whatever was asked ahead, and however often, the answer is the same.
func TestAgain(t *testing.T) {
	for range 50 {
		for _, n := range some() {
			was := laid(n)
			refused(t, api.Note{Age: n.Age, Records: n.Records})
			none(t, was[1:], api.ErrText)
			none(t, nil, api.ErrSum)
			if r, e := note.Read(was); !like(r, n) || e != api.OK {
				t.Fatalf("%+v: read as %+v, error %d", n, r, e)
			}
			same(t, n, first(), like(n, first()))
		}
	}
}

// P11.4: unlike notes have unlike blocks: those that differ in one field, and in two by turns.
func TestUnlike(t *testing.T) {
	had := map[string]api.Note{}
	add := func(n api.Note) {
		if !mayBe(n) {
			return
		}
		b := string(well(t, n))
		if r, ok := had[b]; ok && !like(r, n) {
			t.Fatalf("%+v and %+v have one block", n, r)
		}
		had[b] = twin(n)
	}
	for _, n := range some() {
		for _, x := range great() {
			add(api.Note{Id: x, Age: n.Age, Seq: n.Seq, Stripe: n.Stripe, Records: n.Records})
			add(api.Note{Id: n.Id, Age: x, Seq: n.Seq, Stripe: n.Stripe, Records: n.Records})
			add(api.Note{Id: n.Id, Age: n.Age, Seq: x, Stripe: n.Stripe, Records: n.Records})
			add(api.Note{Id: x, Age: n.Seq, Seq: n.Age, Stripe: n.Stripe, Records: n.Records})
		}
		for stripe := range 64 {
			add(api.Note{Id: n.Id, Age: n.Age, Seq: n.Seq, Stripe: stripe, Records: n.Records})
		}
		for i := range n.Records {
			m := twin(n)
			m.Records = m.Records[:i]
			add(m)
			m = twin(n)
			m.Records[i].Bare = !m.Records[i].Bare
			add(m)
			m = twin(n)
			m.Records[0].Sum, m.Records[i].Sum = m.Records[i].Sum, m.Records[0].Sum
			add(m)
			for slot := range 256 {
				m = twin(n)
				m.Records[i].Slot = uint8(slot)
				add(m)
			}
			for _, x := range great() {
				m = twin(n)
				m.Records[i].Sum = x
				add(m)
			}
		}
	}
}

// P11.4: a note's block of which up to four bytes side by side, all ahead of the sum or all its own, are turned is none. All that one byte may be, and of two to four bytes each two bits, all bits, and samples.
func TestTurned(t *testing.T) {
	for _, n := range some() {
		was := laid(n)
		for at := range 125 {
			if at > 120 && at < 124 {
				continue // some of these four are ahead of the sum, and some its own
			}
			n := uint64(at + 1)
			for i := range 32 {
				for k := range i + 1 {
					turned(t, was, at, 1<<i|1<<k)
				}
				n = chance(n)
				turned(t, was, at, uint32(n>>16)|1)
			}
			turned(t, was, at, math.MaxUint32)
		}
		for at := range was {
			for x := 1; x < 256; x++ {
				b := bytes.Clone(was)
				b[at] ^= byte(x)
				none(t, b, api.ErrSum)
			}
		}
	}
}

// turned holds the block, four bytes of which are turned by these bits, to be none.
func turned(t *testing.T, was []byte, at int, x uint32) {
	t.Helper()
	b := bytes.Clone(was)
	binary.LittleEndian.PutUint32(b[at:], binary.LittleEndian.Uint32(b[at:])^x)
	none(t, b, api.ErrSum)
}

// P11.4, whole: what the 32 bits of any four bytes side by side turn in the sum is of rank 32, so that no turn of them leaves it as it was.
func TestTurnedWhole(t *testing.T) {
	was := well(t, first())
	for at := range 121 {
		var rows [32]uint32
		for i := range rows {
			b := bytes.Clone(was)
			b[at+i/8] ^= 1 << (i % 8)
			rows[i] = total(b[:124]) ^ binary.LittleEndian.Uint32(was[124:])
		}
		if rank(rows) != 32 {
			t.Fatalf("four bytes at %d: rank %d", at, rank(rows))
		}
	}
}

// rank is how many of the rows are not made of others by exclusive or.
func rank(rows [32]uint32) int {
	n := 0
	for i := range rows {
		if rows[i] == 0 {
			continue
		}
		n++
		low := bits.TrailingZeros32(rows[i])
		for k := i + 1; k < 32; k++ {
			if rows[k]>>low&1 == 1 {
				rows[k] ^= rows[i]
			}
		}
	}
	return n
}

// P11.2: no note's block is a label's or a super's, and none of theirs is a note's.
func TestNoOther(t *testing.T) {
	for _, n := range some() {
		b := well(t, n)
		if l, e := label.Read(b); e != api.ErrSum {
			t.Fatalf("%+v: its block is that of label %+v, error %d", n, l, e)
		}
		if s, e := super.Read(b); e != api.ErrSum {
			t.Fatalf("%+v: its block is that of super %+v, error %d", n, s, e)
		}
	}
	b, e := label.Write(api.Label{Id: 7, Events: 1, Members: 3, Chunk: 1, Rows: 1, Log: 255, Me: 2, Lost: api.NoMember})
	if e != api.OK {
		t.Fatal(e)
	}
	none(t, b, api.ErrSum)
	for x := range 255 {
		b, e = super.Write(api.Super{Id: 7, Age: 1, Seq: 1, Tail: x})
		if e != api.OK {
			t.Fatal(e)
		}
		none(t, b, api.ErrSum)
		b[0] = 78 // its Tail is the stripe then, of a note without records
		none(t, summed(b), api.ErrSum)
		b[14] = 1
		if seen(t, summed(b)) != (x < 64) {
			t.Fatalf("stripe %d", x)
		}
	}
}
