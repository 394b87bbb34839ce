package disk_test

import (
	"bytes"
	"math"
	"reflect"
	"slices"
	"testing"

	"freeboard/api"
	"freeboard/disk"
)

// filled is a block that is a function of its number: its bytes are unlike one another, and unlike those of the next ones.
func filled(n int) []byte {
	b := make([]byte, api.Size)
	for i := range b {
		b[i] = byte((2*i+1)*(2*n+3) + n*n + i/7)
	}
	return b
}

// long is the block as Size bytes; one that has more stays as it is.
func long(block []byte) []byte {
	return append(bytes.Clone(block), make([]byte, max(0, api.Size-len(block)))...)
}

// none is a device of n blocks, all none.
func none(n int) api.Disk {
	return api.Disk{Blocks: make([][]byte, n)}
}

// busy is a device of n blocks, of which each fourth is none, with so many writes that wait, of which each fifth is one of none.
func busy(n, waits int) api.Disk {
	d := none(n)
	for i := range n {
		if i%4 != 1 {
			d.Blocks[i] = filled(i)
		}
	}
	for i := range waits {
		w := api.Write{At: (7*i + i/3) % n}
		if i%5 != 2 {
			w.Data = filled(300 + i)
		}
		d.Wait = append(d.Wait, w)
	}
	return d
}

// dead is a dead device of n blocks.
func dead(n int) api.Disk {
	d := none(n)
	d.Dead = true
	return d
}

// good are devices that may be.
func good() []api.Disk {
	empty := api.Disk{Blocks: [][]byte{{}, {}}, Wait: []api.Write{}}
	gone := api.Disk{Blocks: [][]byte{{}, nil}, Wait: []api.Write{}, Dead: true}
	return []api.Disk{
		none(1), none(2), none(256), empty, busy(1, 0), busy(1, 3), busy(2, 1), busy(5, 12), busy(256, 0), busy(256, 40),
		busy(1, 1023), busy(3, 1024), busy(256, 1024), gone, dead(1), dead(7), dead(256),
	}
}

// bad are devices that may not be, each by a single fault, or by several.
func bad() []api.Disk {
	l := []api.Disk{{}, {Blocks: [][]byte{}}, {Dead: true}, none(257), busy(257, 3), dead(257), none(1000), {Wait: make([]api.Write, 1)}, {Wait: make([]api.Write, 1025), Dead: true}}
	l = append(l, busy(1, 1025), busy(256, 1025), busy(9, 3000))
	for _, size := range []int{1, 2, 64, api.Size - 1, api.Size + 1, 2 * api.Size} {
		for _, n := range []int{1, 2, 17} {
			for _, at := range []int{0, n / 2, n - 1} {
				d := busy(n, 3)
				d.Blocks[at] = make([]byte, size)
				l = append(l, d)
				d = busy(n, 4*n)
				d.Wait[at].Data = make([]byte, size)
				l = append(l, d)
				d = busy(n, 4*n)
				d.Wait[4*n-1-at].Data = make([]byte, size)
				l = append(l, d)
			}
		}
	}
	for _, n := range []int{1, 2, 256} {
		for _, at := range []int{-1, n, n + 1, math.MinInt, math.MaxInt, math.MinInt32, math.MaxInt32} {
			for _, i := range []int{0, 5, 9} {
				d := busy(n, 10)
				d.Wait[i].At = at
				l = append(l, d)
			}
		}
		for _, at := range []int{0, n / 2, n - 1} {
			for _, size := range []int{1, api.Size} {
				d := dead(n)
				d.Blocks[at] = make([]byte, size)
				l = append(l, d)
			}
			d := dead(n)
			d.Wait = []api.Write{{At: at}}
			l = append(l, d)
		}
	}
	d := busy(256, 1024)
	d.Blocks[255] = []byte{1}
	l = append(l, d)
	d = busy(256, 1024)
	d.Wait[1023].Data = []byte{1}
	return append(l, d)
}

// clone is a device in other memory, as it is.
func clone(d api.Disk) api.Disk {
	c := api.Disk{Blocks: slices.Clone(d.Blocks), Wait: slices.Clone(d.Wait), Dead: d.Dead}
	for i := range c.Blocks {
		c.Blocks[i] = bytes.Clone(c.Blocks[i])
	}
	for i := range c.Wait {
		c.Wait[i].Data = bytes.Clone(c.Wait[i].Data)
	}
	return c
}

// equal tells whether two devices are the same to the letter, but for lists that are none, nil or empty.
func equal(a, b api.Disk) bool {
	return a.Dead == b.Dead && slices.EqualFunc(a.Blocks, b.Blocks, bytes.Equal) &&
		slices.EqualFunc(a.Wait, b.Wait, func(x, y api.Write) bool { return x.At == y.At && bytes.Equal(x.Data, y.Data) })
}

// alike tells whether two devices that may be have the same blocks at all places, and the same that waits: the chapter's words for Same.
func alike(a, b api.Disk) bool {
	return a.Dead == b.Dead && slices.EqualFunc(a.Blocks, b.Blocks, func(x, y []byte) bool { return bytes.Equal(long(x), long(y)) }) &&
		slices.EqualFunc(a.Wait, b.Wait, func(x, y api.Write) bool { return x.At == y.At && bytes.Equal(long(x.Data), long(y.Data)) })
}

// must is a device that is to be answered well.
func must(t *testing.T) func(api.Disk, api.Errno) api.Disk {
	return func(d api.Disk, e api.Errno) api.Disk {
		t.Helper()
		if e != api.OK {
			t.Fatalf("error %d", e)
		}
		return d
	}
}

// reads asks for a block, which is to be those Size bytes.
func reads(t *testing.T, what string, read func(api.Disk, int) ([]byte, api.Errno), d api.Disk, at int, want []byte) {
	t.Helper()
	if b, e := read(d, at); e != api.OK || !bytes.Equal(b, long(want)) {
		t.Fatalf("%s at %d: %v, error %d, not %v", what, at, b, e, want)
	}
}

// noDisk is an answer that is to be the error and nothing else.
func noDisk(t *testing.T, what string, d api.Disk, e, want api.Errno) {
	t.Helper()
	if e != want || !reflect.DeepEqual(d, api.Disk{}) {
		t.Errorf("%s: %v, error %d, not %d", what, d, e, want)
	}
}

// noBlock is an answer that is to be the error and nothing else.
func noBlock(t *testing.T, what string, b []byte, e, want api.Errno) {
	t.Helper()
	if e != want || b != nil {
		t.Errorf("%s: %v, error %d, not %d", what, b, e, want)
	}
}

func TestExamples(t *testing.T) {
	well, x := must(t), bytes.Repeat([]byte{'x'}, api.Size)
	d := well(disk.New(2))
	w := well(disk.Write(d, 1, x))
	reads(t, "Read", disk.Read, w, 1, x)
	reads(t, "Lasting", disk.Lasting, w, 1, nil)
	reads(t, "Lasting of Flush", disk.Lasting, well(disk.Flush(w)), 1, x)
	f := well(disk.Fua(w, 1, nil))
	reads(t, "Read of Fua", disk.Read, f, 1, nil)
	if len(f.Wait) != 0 {
		t.Error(f.Wait)
	}
	for _, n := range []int{0, 257} {
		c, e := disk.New(n)
		noDisk(t, "New", c, e, api.ErrArg)
	}
	b, e := disk.Read(d, 2)
	noBlock(t, "Read at 2", b, e, api.ErrArg)
	c, e := disk.Write(d, 0, []byte{'x'})
	noDisk(t, "Write of one byte", c, e, api.ErrText)
	k := well(disk.Kill(d))
	b, e = disk.Read(k, 0)
	noBlock(t, "Read of a dead one", b, e, api.ErrDead)
	b, e = disk.Read(k, 9)
	noBlock(t, "Read of a dead one at 9", b, e, api.ErrArg)
}

// P4.1: New of all numbers of blocks that may be, and of those that may not.
func TestNew(t *testing.T) {
	for n := 1; n <= api.MaxBlocks; n++ {
		d, e := disk.New(n)
		if e != api.OK || !equal(d, none(n)) || disk.Check(d) != api.OK {
			t.Fatalf("New of %d: %v, error %d", n, d, e)
		}
		reads(t, "Read", disk.Read, d, n-1, nil)
		reads(t, "Lasting", disk.Lasting, d, n-1, nil)
	}
	for _, n := range []int{0, -1, -2, -256, 257, 258, 512, 1 << 16, math.MinInt32, math.MaxInt32, math.MinInt, math.MaxInt} {
		d, e := disk.New(n)
		noDisk(t, "New", d, e, api.ErrArg)
	}
}

// P4.1: Check of devices that may be, and of those that may not.
func TestCheck(t *testing.T) {
	for i, d := range good() {
		if e := disk.Check(d); e != api.OK {
			t.Errorf("good device %d: error %d", i, e)
		}
	}
	for i, d := range bad() {
		if e := disk.Check(d); e != api.ErrBad {
			t.Errorf("bad device %d: error %d", i, e)
		}
	}
}

// otherwise are blocks that are not b's bytes: one byte is other, or there are fewer, or more.
func otherwise(b []byte) [][]byte {
	l := [][]byte{append(long(b), 0), long(b)[:max(len(b), api.Size)-1]}
	if len(b) == api.Size-1 {
		l[1] = b[1:]
	}
	for _, k := range []int{0, 64, api.Size - 1} {
		c := long(b)
		c[k]++
		l = append(l, c)
	}
	return l
}

// turned are devices that are each unlike d, by one thing.
func turned(d api.Disk) []api.Disk {
	var l []api.Disk
	turn := func(f func(*api.Disk)) {
		c := clone(d)
		f(&c)
		l = append(l, c)
	}
	turn(func(c *api.Disk) { c.Dead = !c.Dead })
	turn(func(c *api.Disk) { c.Blocks = append(c.Blocks, nil) })
	turn(func(c *api.Disk) { c.Wait = append(c.Wait, api.Write{}) })
	if n := len(d.Blocks); n > 0 {
		turn(func(c *api.Disk) { c.Blocks = c.Blocks[:n-1] })
		for _, i := range []int{0, n / 2, n - 1} {
			for _, b := range otherwise(d.Blocks[i]) {
				turn(func(c *api.Disk) { c.Blocks[i] = b })
			}
		}
	}
	if n := len(d.Wait); n > 0 {
		turn(func(c *api.Disk) { c.Wait = c.Wait[:n-1] })
		turn(func(c *api.Disk) { c.Wait = append(c.Wait[1:], api.Write{At: -5}) })
		for _, i := range []int{0, n / 2, n - 1} {
			turn(func(c *api.Disk) { c.Wait[i].At++ })
			turn(func(c *api.Disk) { c.Wait[i].At = ^c.Wait[i].At })
			for _, b := range otherwise(d.Wait[i].Data) {
				turn(func(c *api.Disk) { c.Wait[i].Data = b })
			}
		}
	}
	return l
}

// filledUp is d with Size noughts where there are none, and none where there are Size noughts.
func filledUp(d api.Disk) api.Disk {
	c := clone(d)
	swap := func(b []byte) []byte {
		if len(b) == 0 {
			return make([]byte, api.Size)
		}
		if bytes.Equal(b, make([]byte, api.Size)) {
			return []byte{}
		}
		return b
	}
	for i := range c.Blocks {
		c.Blocks[i] = swap(c.Blocks[i])
	}
	for i := range c.Wait {
		c.Wait[i].Data = swap(c.Wait[i].Data)
	}
	return c
}

// P4.1: Same of devices that are alike, and of those that are unlike by one thing; none are Size noughts.
func TestSame(t *testing.T) {
	noughts := api.Disk{Blocks: [][]byte{make([]byte, api.Size), filled(1)}, Wait: []api.Write{{At: 1, Data: make([]byte, api.Size)}}}
	all := append(good(), noughts)
	for i, d := range all {
		for _, c := range []api.Disk{d, clone(d), filledUp(d), disk.Twin(d)} {
			if !disk.Same(d, c) || !disk.Same(c, d) {
				t.Errorf("device %d is not the same as itself", i)
			}
		}
		for k, c := range turned(d) {
			if disk.Same(d, c) || disk.Same(c, d) || disk.Same(filledUp(d), c) {
				t.Errorf("device %d is the same as its turn %d", i, k)
			}
		}
		for k, c := range all {
			if disk.Same(d, c) != alike(d, c) {
				t.Errorf("device %d and %d: not %v", i, k, alike(d, c))
			}
		}
	}
}

// P4.1: Same asks for writes that wait in order, not for what is read behind them.
func TestSameInOrder(t *testing.T) {
	a := api.Disk{Blocks: make([][]byte, 2), Wait: []api.Write{{At: 0, Data: filled(1)}, {At: 1, Data: filled(2)}}}
	b := clone(a)
	b.Wait[0], b.Wait[1] = b.Wait[1], b.Wait[0]
	c := api.Disk{Blocks: [][]byte{filled(1), filled(2)}}
	d := clone(a)
	d.Wait[0].At, d.Wait[1].At = 1, 0
	l := []api.Disk{a, b, c, d}
	for i := range l {
		for k := range l {
			if disk.Same(l[i], l[k]) != (i == k) {
				t.Errorf("%d and %d", i, k)
			}
		}
	}
}

// P4.1: Same of devices that may not be: by their blocks' bytes all the same; only none are noughts.
func TestSameOfAny(t *testing.T) {
	for i, d := range bad() {
		if !disk.Same(d, clone(d)) || !disk.Same(filledUp(d), d) {
			t.Errorf("bad device %d is not the same as itself", i)
		}
		for k, c := range turned(d) {
			if disk.Same(d, c) || disk.Same(c, d) {
				t.Errorf("bad device %d is the same as its turn %d", i, k)
			}
		}
	}
	for size := 1; size <= 2*api.Size; size++ {
		few := api.Disk{Blocks: [][]byte{make([]byte, size)}}
		wait := api.Disk{Wait: []api.Write{{At: 5, Data: make([]byte, size)}}}
		if want := size == api.Size; disk.Same(few, none(1)) != want || disk.Same(wait, api.Disk{Wait: []api.Write{{At: 5}}}) != want {
			t.Errorf("%d noughts and none: not %v", size, want)
		}
	}
	if !disk.Same(api.Disk{}, api.Disk{Blocks: [][]byte{}, Wait: []api.Write{}}) {
		t.Error("empty and nil")
	}
}

// P4.1: Twin of any device is that one.
func TestTwin(t *testing.T) {
	for i, d := range append(good(), bad()...) {
		if c := disk.Twin(d); !equal(c, d) {
			t.Errorf("device %d: %v, not %v", i, c, d)
		}
	}
}

// P4.2: at each place the Data of the last write that waits there is read, and the block lasts.
func TestReadAndLasting(t *testing.T) {
	for _, d := range good() {
		for at := range d.Blocks {
			if d.Dead {
				b, e := disk.Read(d, at)
				noBlock(t, "Read", b, e, api.ErrDead)
				b, e = disk.Lasting(d, at)
				noBlock(t, "Lasting", b, e, api.ErrDead)
				continue
			}
			want := d.Blocks[at]
			reads(t, "Lasting", disk.Lasting, d, at, want)
			for _, w := range d.Wait {
				if w.At == at {
					want = w.Data
				}
			}
			reads(t, "Read", disk.Read, d, at, want)
		}
	}
}

// P4.2: the last write that waits is read, also where it is one of none, and others wait behind it.
func TestReadLastOfSeveral(t *testing.T) {
	for _, last := range [][]byte{nil, {}, make([]byte, api.Size), filled(9)} {
		d := api.Disk{Blocks: [][]byte{filled(1), filled(2), filled(3)}}
		d.Wait = []api.Write{{At: 1, Data: filled(4)}, {At: 0, Data: filled(5)}, {At: 1, Data: last}, {At: 0, Data: filled(6)}}
		reads(t, "Read", disk.Read, d, 1, last)
		reads(t, "Read", disk.Read, d, 0, filled(6))
		reads(t, "Read", disk.Read, d, 2, filled(3))
		reads(t, "Lasting", disk.Lasting, d, 1, filled(2))
	}
}

// far are places that no device has.
func far(blocks int) []int {
	return []int{-1, -2, -blocks, blocks, blocks + 1, 2 * blocks, math.MinInt32, math.MaxInt32, math.MinInt, math.MaxInt}
}

// P4.1 to P4.3 and P1: of several errors the one named first, for each device, place and data.
func TestErrorsInOrder(t *testing.T) {
	datas := [][]byte{nil, {}, filled(1), {1}, filled(1)[1:], append(filled(1), 1), make([]byte, 2*api.Size)}
	well := good()
	for i, d := range append(well, bad()...) {
		n := len(d.Blocks)
		for _, at := range append(far(n), 0, n-1) {
			first := api.OK
			switch {
			case i >= len(well):
				first = api.ErrBad
			case at < 0 || at >= n:
				first = api.ErrArg
			}
			want := first
			if want == api.OK && d.Dead {
				want = api.ErrDead
			}
			if want != api.OK {
				b, e := disk.Read(d, at)
				noBlock(t, "Read", b, e, want)
				b, e = disk.Lasting(d, at)
				noBlock(t, "Lasting", b, e, want)
			}
			for _, data := range datas {
				want := first
				if want == api.OK && len(data) != 0 && len(data) != api.Size {
					want = api.ErrText
				}
				if want == api.OK && d.Dead {
					want = api.ErrDead
				}
				if want != api.OK {
					c, e := disk.Fua(d, at, data)
					noDisk(t, "Fua", c, e, want)
				}
				if want == api.OK && len(d.Wait) == api.MaxWaits {
					want = api.ErrFull
				}
				if want != api.OK {
					c, e := disk.Write(d, at, data)
					noDisk(t, "Write", c, e, want)
				}
			}
		}
	}
}

// P4.1 and P4.4: Flush and Kill of a device that may not be, and of one that is dead.
func TestFlushAndKillRefused(t *testing.T) {
	for _, d := range bad() {
		c, e := disk.Flush(d)
		noDisk(t, "Flush", c, e, api.ErrBad)
		c, e = disk.Kill(d)
		noDisk(t, "Kill", c, e, api.ErrBad)
	}
	for _, n := range []int{1, 2, 256} {
		c, e := disk.Flush(dead(n))
		noDisk(t, "Flush", c, e, api.ErrDead)
		if c, e := disk.Kill(dead(n)); e != api.OK || !equal(c, dead(n)) {
			t.Errorf("Kill of a dead one: %v, error %d", c, e)
		}
	}
}

// written are what may be written.
func written() [][]byte {
	return [][]byte{nil, {}, make([]byte, api.Size), filled(777), bytes.Repeat([]byte{255}, api.Size)}
}

// P4.3: a write waits behind all others, and nothing else is turned.
func TestWrite(t *testing.T) {
	for _, d := range good() {
		if d.Dead || len(d.Wait) == api.MaxWaits {
			continue
		}
		for _, at := range []int{0, len(d.Blocks) / 2, len(d.Blocks) - 1} {
			for _, data := range written() {
				want := clone(d)
				want.Wait = append(want.Wait, api.Write{At: at, Data: data})
				c, e := disk.Write(d, at, data)
				if e != api.OK || !alike(c, want) || disk.Check(c) != api.OK {
					t.Fatalf("Write at %d: error %d", at, e)
				}
			}
		}
	}
}

// P4.3: the write that makes it full is well, the next one isn't; a Fua of that place makes room again.
func TestFull(t *testing.T) {
	d := none(2)
	for i := range api.MaxWaits {
		c, e := disk.Write(d, i%2, filled(i))
		if e != api.OK || len(c.Wait) != i+1 {
			t.Fatalf("write %d: error %d", i, e)
		}
		d = c
	}
	for at := range 2 {
		c, e := disk.Write(d, at, nil)
		noDisk(t, "Write", c, e, api.ErrFull)
		f, e := disk.Fua(d, at, filled(3))
		if e != api.OK || len(f.Wait) != api.MaxWaits/2 {
			t.Fatalf("Fua: %d wait, error %d", len(f.Wait), e)
		}
		if c, e := disk.Write(f, at, nil); e != api.OK || len(c.Wait) != api.MaxWaits/2+1 {
			t.Errorf("Write: %d wait, error %d", len(c.Wait), e)
		}
	}
	f, e := disk.Flush(d)
	if e != api.OK || len(f.Wait) != 0 {
		t.Fatalf("Flush: %d wait, error %d", len(f.Wait), e)
	}
	reads(t, "Lasting", disk.Lasting, f, 0, filled(api.MaxWaits-2))
	reads(t, "Lasting", disk.Lasting, f, 1, filled(api.MaxWaits-1))
}

// P4.3: a Fua lasts, takes all writes of its place away, and leaves the others in their order.
func TestFua(t *testing.T) {
	for _, d := range good() {
		if d.Dead {
			continue
		}
		for _, at := range []int{0, len(d.Blocks) / 2, len(d.Blocks) - 1} {
			for _, data := range written() {
				want := clone(d)
				want.Blocks[at] = data
				want.Wait = nil
				for _, w := range d.Wait {
					if w.At != at {
						want.Wait = append(want.Wait, w)
					}
				}
				c, e := disk.Fua(d, at, data)
				if e != api.OK || !alike(c, want) || disk.Check(c) != api.OK {
					t.Fatalf("Fua at %d: error %d", at, e)
				}
				reads(t, "Read", disk.Read, c, at, data)
				reads(t, "Lasting", disk.Lasting, c, at, data)
			}
		}
	}
}

// P4.4: a flush writes all that waits to its block, the one behind over the one ahead.
func TestFlush(t *testing.T) {
	for _, d := range good() {
		if d.Dead {
			continue
		}
		want := clone(d)
		for _, w := range d.Wait {
			want.Blocks[w.At] = w.Data
		}
		want.Wait = nil
		c, e := disk.Flush(d)
		if e != api.OK || !alike(c, want) || disk.Check(c) != api.OK {
			t.Fatalf("Flush: error %d", e)
		}
		if f, e := disk.Flush(c); e != api.OK || !alike(f, c) {
			t.Errorf("Flush of that: error %d", e)
		}
	}
}

// P4.4: a device that is killed has as many blocks, all none, and nothing waits.
func TestKill(t *testing.T) {
	for _, d := range good() {
		c, e := disk.Kill(d)
		if e != api.OK || !equal(c, dead(len(d.Blocks))) || disk.Check(c) != api.OK {
			t.Errorf("Kill: %v, error %d", c, e)
		}
	}
}

// P4.6: who is dead stays dead, whatever is done with it.
func TestDeadStaysDead(t *testing.T) {
	well := must(t)
	d := well(disk.Kill(busy(5, 12)))
	for range 3 {
		if c, e := disk.Write(d, 0, filled(1)); e != api.ErrDead || !reflect.DeepEqual(c, api.Disk{}) {
			t.Errorf("Write: error %d", e)
		}
		if c, e := disk.Fua(d, 0, filled(1)); e != api.ErrDead || !reflect.DeepEqual(c, api.Disk{}) {
			t.Errorf("Fua: error %d", e)
		}
		d = disk.Twin(well(disk.Kill(d)))
		if !equal(d, dead(5)) {
			t.Errorf("%v", d)
		}
	}
}

// told is a device by the words of P4.6: of each place what was written last, and what is sure to last.
type told struct {
	last, lasts [][]byte
}

// holds asks whether d reads as it is told.
func (m told) holds(t *testing.T, d api.Disk) {
	t.Helper()
	for at := range m.last {
		reads(t, "Read", disk.Read, d, at, m.last[at])
		reads(t, "Lasting", disk.Lasting, d, at, m.lasts[at])
	}
}

// P4.6: behind any script what is read is what was written last, and what was written by Fua, or ahead of a Flush, lasts until that place is written again by Fua, or flushed.
func TestScripts(t *testing.T) {
	for seed := range uint32(60) {
		blocks, s := 1+int(seed%6), seed
		next := func(n int) int { // a short rule for numbers that look like chance
			s = s*1664525 + 1013904223
			return int(s>>16) % n
		}
		d := must(t)(disk.New(blocks))
		m := told{make([][]byte, blocks), make([][]byte, blocks)}
		for i := range 80 {
			at, data := next(blocks), written()[next(5)]
			if next(2) == 0 {
				data = filled(i)
			}
			switch next(8) {
			case 0:
				d = must(t)(disk.Flush(d))
				copy(m.lasts, m.last)
			case 1, 2:
				d = must(t)(disk.Fua(d, at, data))
				m.last[at], m.lasts[at] = data, data
			case 3:
				d = disk.Twin(d)
			default:
				d = must(t)(disk.Write(d, at, data))
				m.last[at] = data
			}
			if e := disk.Check(d); e != api.OK {
				t.Fatalf("script %d, deed %d: error %d", seed, i, e)
			}
			m.holds(t, d)
		}
	}
}

// P4.6: what a Fua wrote is not undone by a flush of what waited there ahead of it.
func TestFuaLastsBehindFlush(t *testing.T) {
	well := must(t)
	for _, data := range written() {
		d := well(disk.Write(busy(3, 0), 1, filled(50)))
		d = well(disk.Write(d, 2, filled(51)))
		d = well(disk.Flush(well(disk.Fua(d, 1, data))))
		reads(t, "Lasting", disk.Lasting, d, 1, data)
		reads(t, "Lasting", disk.Lasting, d, 2, filled(51))
		d = well(disk.Write(d, 1, filled(52)))
		reads(t, "Lasting", disk.Lasting, d, 1, data)
		reads(t, "Read", disk.Read, d, 1, filled(52))
	}
}

// calls asks everything of the device, and answers what is answered.
func calls(d api.Disk, at int, data []byte) (disks []api.Disk, blocks [][]byte) {
	disk.Check(d)
	disk.Same(d, d)
	for _, read := range []func(api.Disk, int) ([]byte, api.Errno){disk.Read, disk.Lasting} {
		b, _ := read(d, at)
		blocks = append(blocks, b)
	}
	for _, write := range []func(api.Disk, int, []byte) (api.Disk, api.Errno){disk.Write, disk.Fua} {
		c, _ := write(d, at, data)
		disks = append(disks, c)
	}
	for _, turn := range []func(api.Disk) (api.Disk, api.Errno){disk.Flush, disk.Kill} {
		c, _ := turn(d)
		disks = append(disks, c)
	}
	return append(disks, disk.Twin(d)), blocks
}

// roomy is d in lists and blocks that have room behind them, and data that has: all of it filled, so that who writes there is seen.
func roomy(d api.Disk, data []byte) (in api.Disk, block []byte, all func() api.Disk) {
	wide := api.Disk{Blocks: make([][]byte, len(d.Blocks)+2), Wait: make([]api.Write, len(d.Wait)+2), Dead: d.Dead}
	room := func(b []byte) []byte { return append(bytes.Clone(b), filled(4)...) }
	for i := range wide.Blocks {
		wide.Blocks[i] = filled(i)
	}
	for i, b := range d.Blocks {
		wide.Blocks[i+1] = room(b)
	}
	for i := range wide.Wait {
		wide.Wait[i] = api.Write{At: 90 + i, Data: filled(i)}
	}
	for i, w := range d.Wait {
		wide.Wait[i+1] = api.Write{At: w.At, Data: room(w.Data)}
	}
	more := room(data)
	in = api.Disk{Blocks: slices.Clone(wide.Blocks), Wait: slices.Clone(wide.Wait), Dead: d.Dead}
	for i, b := range d.Blocks {
		in.Blocks[i+1] = wide.Blocks[i+1][:len(b)]
	}
	for i, w := range d.Wait {
		in.Wait[i+1].Data = wide.Wait[i+1].Data[:len(w.Data)]
	}
	whole := in
	in.Blocks, in.Wait = whole.Blocks[1:len(d.Blocks)+1], whole.Wait[1:len(d.Wait)+1]
	return in, more[:len(data)], func() api.Disk {
		c := clone(whole)
		for _, b := range append(slices.Clone(wide.Blocks), more) {
			c.Blocks = append(c.Blocks, bytes.Clone(b))
		}
		for _, w := range wide.Wait {
			c.Wait = append(c.Wait, api.Write{At: w.At, Data: bytes.Clone(w.Data)})
		}
		return c
	}
}

// P4.5: what is handed in is only read: lists, blocks, and what stands on either side of them.
func TestOnlyRead(t *testing.T) {
	for i, d := range append(good(), bad()...) {
		for _, data := range [][]byte{nil, filled(5), {1}} {
			for _, at := range []int{-1, 0, 1, len(d.Blocks) - 1, len(d.Blocks)} {
				in, block, all := roomy(d, data)
				was := all()
				calls(in, at, block)
				if !equal(all(), was) {
					t.Fatalf("device %d, at %d: what was handed in is other", i, at)
				}
			}
		}
	}
}

// parts are all blocks of a device, as far as their memory goes.
func parts(d api.Disk) [][]byte {
	var l [][]byte
	for _, b := range d.Blocks[:cap(d.Blocks)] {
		l = append(l, b[:cap(b)])
	}
	for _, w := range d.Wait[:cap(d.Wait)] {
		l = append(l, w.Data[:cap(w.Data)])
	}
	return l
}

// wipe writes over all of a device.
func wipe(d api.Disk) {
	for _, b := range parts(d) {
		clear(b)
	}
	clear(d.Blocks[:cap(d.Blocks)])
	clear(d.Wait[:cap(d.Wait)])
}

// P4.5: what is answered shares nothing with what was handed in, nor with another answer.
func TestNewMemory(t *testing.T) {
	for i, d := range append(good(), bad()...) {
		for _, data := range [][]byte{nil, filled(5)} {
			at := max(0, len(d.Blocks)/2)
			handed, block := clone(d), bytes.Clone(data)
			disks, blocks := calls(handed, at, block)
			again, others := calls(handed, at, block)
			for k := range again {
				wipe(again[k])
			}
			for k := range others {
				clear(others[k][:cap(others[k])])
			}
			if !equal(handed, d) || !bytes.Equal(block, data) {
				t.Fatalf("device %d: what was handed in is in an answer", i)
			}
			wipe(handed)
			clear(block)
			want, read := calls(d, at, data)
			if !slices.EqualFunc(disks, want, equal) || !slices.EqualFunc(blocks, read, bytes.Equal) {
				t.Fatalf("device %d: an answer shares its memory", i)
			}
		}
	}
}

// P4.5: no two blocks of one answer share any memory, also where those that were handed in are one.
func TestPartsApart(t *testing.T) {
	one := filled(3)
	d := api.Disk{Blocks: [][]byte{one, one, one, nil}}
	for i := range 8 {
		d.Wait = append(d.Wait, api.Write{At: i % 3, Data: one})
	}
	for _, x := range []api.Disk{d, {Blocks: [][]byte{one, one}}, busy(5, 12)} {
		for at := range x.Blocks {
			disks, _ := calls(x, at, one)
			for k, c := range disks {
				l := parts(c)
				for i, b := range l {
					for j := range b {
						b[j] = byte(i + 1)
					}
				}
				for i, b := range l {
					if len(b) != bytes.Count(b, []byte{byte(i + 1)}) {
						t.Fatalf("answer %d at %d: block %d shares its bytes", k, at, i)
					}
				}
			}
		}
	}
	if !bytes.Equal(one, filled(3)) {
		t.Error("what was handed in is other")
	}
}

// P4.5: an answer goes on to be what it was when it is gone on from twice.
func TestTwoFromOne(t *testing.T) {
	well := must(t)
	d := well(disk.Write(none(2), 0, filled(1)))
	d = well(disk.Write(d, 1, filled(2)))
	d = well(disk.Write(d, 0, filled(3)))
	was := clone(d)
	a := well(disk.Write(d, 0, filled(4)))
	b := well(disk.Write(d, 0, filled(5)))
	f := well(disk.Fua(d, 0, filled(6)))
	well(disk.Write(f, 1, filled(7)))
	well(disk.Flush(d))
	reads(t, "Read", disk.Read, a, 0, filled(4))
	reads(t, "Read", disk.Read, b, 0, filled(5))
	reads(t, "Read", disk.Read, f, 1, filled(2))
	if !equal(d, was) {
		t.Error("the one they come from is other")
	}
}
