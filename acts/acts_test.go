package acts_test

import (
	"bytes"
	"math"
	"reflect"
	"slices"
	"testing"

	"freeboard/acts"
	"freeboard/api"
	"freeboard/disk"
)

// filled is a block that is a function of its number: its bytes are unlike one another, and unlike those of the next ones.
func filled(n int) []byte {
	b := make([]byte, api.Size)
	for i := range b {
		b[i] = byte((2*i+1)*(2*n+3) + n*n + i/7)
	}
	return b
}

// long is the block as Size bytes.
func long(block []byte) []byte {
	return append(bytes.Clone(block), make([]byte, api.Size-len(block))...)
}

// none is a device of n blocks, all none.
func none(n int) api.Disk {
	return api.Disk{Blocks: make([][]byte, n)}
}

// dead is a dead device of n blocks.
func dead(n int) api.Disk {
	return api.Disk{Blocks: make([][]byte, n), Dead: true}
}

// busy is a device of n blocks, of which each fourth is none, with so many writes that wait, of which each fifth is one of none.
func busy(n, waits int) api.Disk {
	d := none(n)
	for i := range n {
		if i%4 != 1 {
			d.Blocks[i] = filled(i)
		}
	}
	for i := range waits {
		w := api.Write{At: (7*i + i/3) % n}
		if i%5 != 2 {
			w.Data = filled(300 + i)
		}
		d.Wait = append(d.Wait, w)
	}
	return d
}

// fleet is so many devices, unlike one another; each fourth one is dead.
func fleet(n int) []api.Disk {
	var l []api.Disk
	for i := range n {
		if i%4 == 2 {
			l = append(l, dead(1+i%5))
		} else {
			l = append(l, busy(1+i%5, 5*i%7))
		}
	}
	return l
}

// good are lists of devices that may be.
func good() [][]api.Disk {
	empty := api.Disk{Blocks: [][]byte{{}, {}}, Wait: []api.Write{}}
	return [][]api.Disk{
		{none(1)}, {dead(1)}, {empty}, {busy(1, 3)}, {busy(256, 40)}, {busy(3, 1024)},
		{none(2), none(2)}, {busy(2, 3), busy(3, 0), busy(1, 2)}, {dead(3), dead(1)}, {busy(3, 5), dead(256), busy(5, 7), none(4)},
		fleet(4), fleet(16), fleet(17),
	}
}

// badDisks are devices that may not be.
func badDisks() []api.Disk {
	small, wide, far, ahead, odd, deadBlock, deadWait := busy(3, 2), busy(3, 2), busy(3, 2), busy(3, 2), busy(3, 2), dead(3), dead(3)
	small.Blocks[2] = []byte{1}
	wide.Blocks[0] = make([]byte, api.Size+1)
	far.Wait[1].At = 3
	ahead.Wait[0].At = -1
	odd.Wait[1].Data = make([]byte, api.Size-1)
	deadBlock.Blocks[1] = filled(1)
	deadWait.Wait = []api.Write{{At: 1}}
	return []api.Disk{{}, {Dead: true}, none(257), busy(2, 1025), small, wide, far, ahead, odd, deadBlock, deadWait}
}

// badLists are lists of devices that may not be: too few, too many, or with a wrong one anywhere.
func badLists() [][]api.Disk {
	l := [][]api.Disk{nil, {}, fleet(18), fleet(100), append(fleet(17), api.Disk{})}
	for _, d := range badDisks() {
		for _, n := range []int{1, 3, 17} {
			for _, i := range []int{0, n / 2, n - 1} {
				c := fleet(n)
				c[i] = d
				l = append(l, c)
			}
		}
	}
	return l
}

// clone is a device in other memory, as it is.
func clone(d api.Disk) api.Disk {
	c := api.Disk{Blocks: slices.Clone(d.Blocks), Wait: slices.Clone(d.Wait), Dead: d.Dead}
	for i := range c.Blocks {
		c.Blocks[i] = bytes.Clone(c.Blocks[i])
	}
	for i := range c.Wait {
		c.Wait[i].Data = bytes.Clone(c.Wait[i].Data)
	}
	return c
}

// clones are devices in other memory, as they are.
func clones(disks []api.Disk) []api.Disk {
	c := slices.Clone(disks)
	for i := range c {
		c[i] = clone(c[i])
	}
	return c
}

// alike tells whether two lists have the same devices, in order (none are noughts).
func alike(a, b []api.Disk) bool {
	return slices.EqualFunc(a, b, disk.Same)
}

// must is what is to be answered well.
func must(t *testing.T) func([]api.Disk, api.Errno) []api.Disk {
	return func(disks []api.Disk, e api.Errno) []api.Disk {
		t.Helper()
		if e != api.OK {
			t.Fatalf("error %d", e)
		}
		return disks
	}
}

// refused is an answer that is to be the error and nothing else.
func refused(t *testing.T, what string, disks []api.Disk, e, want api.Errno) {
	t.Helper()
	if e != want || disks != nil {
		t.Fatalf("%s: %v, error %d, not %d", what, disks, e, want)
	}
}

// waits asks how many wait.
func waits(t *testing.T, disks []api.Disk) int {
	t.Helper()
	n, e := acts.Waits(disks)
	if e != api.OK {
		t.Fatalf("Waits: error %d", e)
	}
	return n
}

// lasts is what is to last at a place.
func lasts(t *testing.T, disks []api.Disk, i, at int, want []byte) {
	t.Helper()
	if b, e := disk.Lasting(disks[i], at); e != api.OK || !bytes.Equal(b, long(want)) {
		t.Fatalf("device %d at %d: %v, error %d, not %v", i, at, b, e, want)
	}
}

func TestExamples(t *testing.T) {
	well, x := must(t), bytes.Repeat([]byte{'x'}, api.Size)
	two := []api.Disk{none(2), none(2)}
	l := []api.Act{{Disk: 0, Kind: api.ActWrite, At: 1, Data: x}, {Disk: 0, Kind: api.ActFlush}}
	first := well(acts.Run(two, l, 1))
	if waits(t, first) != 1 || waits(t, well(acts.Run(two, l, 2))) != 0 {
		t.Error("what waits")
	}
	lasts(t, well(acts.Crash(first, []bool{true})), 0, 1, x)
	lasts(t, well(acts.Crash(first, []bool{false})), 0, 1, nil)
	lasts(t, well(acts.Crash(first, nil)), 0, 1, nil)
	c, e := acts.Crash(first, []bool{true, false})
	refused(t, "Crash with two marks", c, e, api.ErrArg)
	c, e = acts.Run(two, l, 3)
	refused(t, "Run with n 3", c, e, api.ErrArg)
	c, e = acts.Run(two, []api.Act{{Disk: 2, Kind: api.ActFlush}}, 1)
	refused(t, "Run with device 2", c, e, api.ErrArg)
	gone := []api.Disk{dead(2), none(2)}
	if !alike(well(acts.Run(gone, l, 1)), gone) {
		t.Error("a dead one is other")
	}
}

// P5.1 and P5.3: lists of devices that may be, and those that may not.
func TestDevices(t *testing.T) {
	for i, disks := range good() {
		if e := acts.Check(nil, disks); e != api.OK {
			t.Errorf("good devices %d: error %d", i, e)
		}
		c, e := acts.Run(disks, nil, 0)
		if e != api.OK || !alike(c, disks) {
			t.Errorf("good devices %d: Run of nothing: error %d", i, e)
		}
	}
	many := make([]api.Act, 1025)
	for i, disks := range badLists() {
		for _, l := range [][]api.Act{nil, {}, {{Kind: api.ActFlush}}, {{Disk: -1}}, many} {
			if e := acts.Check(l, disks); e != api.ErrBad {
				t.Errorf("bad devices %d: Check: error %d", i, e)
			}
			for _, n := range []int{0, 1, -1, len(l) + 1} {
				c, e := acts.Run(disks, l, n)
				refused(t, "Run", c, e, api.ErrBad)
			}
		}
		if n, e := acts.Waits(disks); e != api.ErrBad || n != 0 {
			t.Errorf("bad devices %d: Waits: %d, error %d", i, n, e)
		}
		for _, keep := range [][]bool{nil, {}, {true}, make([]bool, 20000)} {
			c, e := acts.Crash(disks, keep)
			refused(t, "Crash", c, e, api.ErrBad)
		}
	}
	for n := 1; n <= 20; n++ {
		want := api.OK
		if n > api.MaxMembers+1 {
			want = api.ErrBad
		}
		if e := acts.Check(nil, fleet(n)); e != want {
			t.Errorf("%d devices: error %d", n, e)
		}
	}
}

// mayBe is the chapter's word for an act that may be.
func mayBe(a api.Act, disks []api.Disk) bool {
	if a.Disk < 0 || a.Disk > len(disks)-1 {
		return false
	}
	place := a.At >= 0 && a.At <= len(disks[a.Disk].Blocks)-1
	block := len(a.Data) == 0 || len(a.Data) == api.Size
	return (a.Kind == 1 || a.Kind == 2) && place && block || a.Kind == 3 && a.At == 0 && len(a.Data) == 0
}

// edges are numbers about n, and far from it.
func edges(n int) []int {
	return []int{0, n - 1, n, n + 1, -1, -2, -n, 2 * n, math.MinInt32, math.MaxInt32, math.MinInt, math.MaxInt}
}

// P5.1: each act, by all of its fields, alone and in company.
func TestCheckActs(t *testing.T) {
	datas := [][]byte{nil, {}, {0}, make([]byte, api.Size-1), make([]byte, api.Size), filled(3), make([]byte, api.Size+1), make([]byte, 2*api.Size)}
	flush := api.Act{Kind: api.ActFlush}
	for _, disks := range [][]api.Disk{{none(1)}, {none(2), busy(5, 3), dead(3)}, {busy(256, 0), none(2)}, fleet(17)} {
		for _, i := range append(edges(len(disks)), 1) {
			blocks := 2
			if i >= 0 && i < len(disks) {
				blocks = len(disks[i].Blocks)
			}
			for _, at := range append(edges(blocks), 1) {
				for _, data := range datas {
					for kind := range 256 {
						if kind > 5 && (kind*7+at)%31 != 0 {
							continue
						}
						a := api.Act{Disk: i, Kind: uint8(kind), At: at, Data: data}
						want := api.ErrArg
						if mayBe(a, disks) {
							want = api.OK
						}
						for _, l := range [][]api.Act{{a}, {a, flush}, {flush, a, flush}, {flush, flush, a}} {
							if e := acts.Check(l, disks); e != want {
								t.Fatalf("act %v: error %d, not %d", a, e, want)
							}
						}
					}
				}
			}
		}
	}
}

// P5.1: as many acts as may be, and one more; too many are told ahead of wrong ones.
func TestCheckMany(t *testing.T) {
	disks := []api.Disk{none(1)}
	for _, n := range []int{0, 1, 1023, 1024, 1025, 1026, 5000} {
		l := make([]api.Act, n)
		for i := range l {
			l[i] = api.Act{Kind: api.ActFua, Data: filled(i)}
		}
		want := api.OK
		if n > 1024 {
			want = api.ErrMany
		}
		if e := acts.Check(l, disks); e != want {
			t.Errorf("%d acts: error %d", n, e)
		}
		if n == 0 {
			continue
		}
		for _, i := range []int{0, n / 2, n - 1} {
			c := slices.Clone(l)
			c[i].Kind = 0
			if want == api.OK {
				if e := acts.Check(c, disks); e != api.ErrArg {
					t.Errorf("%d acts with a wrong one: error %d", n, e)
				}
			} else if e := acts.Check(c, disks); e != api.ErrMany {
				t.Errorf("%d acts with a wrong one: error %d", n, e)
			}
		}
	}
}

// P5.2: Check's error first, also for acts that are not done; then n; then a device that is full.
func TestRunRefused(t *testing.T) {
	fullOne := []api.Disk{none(2), busy(3, 1024)}
	write := api.Act{Disk: 1, Kind: api.ActWrite, At: 2}
	flush := api.Act{Disk: 0, Kind: api.ActFlush}
	wrong := api.Act{Disk: 1, Kind: api.ActFua, At: 3}
	many := make([]api.Act, 1025)
	for _, n := range []int{0, 1, 2, 3, 4, -1, math.MinInt, math.MaxInt, 1025, 1026} {
		c, e := acts.Run(fullOne, many, n)
		refused(t, "Run of too many", c, e, api.ErrMany)
		for _, l := range [][]api.Act{{wrong}, {flush, wrong}, {write, flush, wrong}, {flush, flush, {}}} {
			c, e := acts.Run(fullOne, l, n)
			refused(t, "Run of a wrong one", c, e, api.ErrArg)
		}
		for _, l := range [][]api.Act{nil, {write}, {flush, flush}, {write, write, flush}} {
			if n < 0 || n > len(l) {
				c, e := acts.Run(fullOne, l, n)
				refused(t, "Run with n", c, e, api.ErrArg)
			}
		}
	}
}

// P5.2: ErrFull only where one of the first n writes to a device, not dead, on which MaxWaits wait.
func TestRunFull(t *testing.T) {
	write, other := api.Act{Disk: 1, Kind: api.ActWrite, At: 2}, api.Act{Disk: 0, Kind: api.ActWrite, At: 1}
	fua, flush := api.Act{Disk: 1, Kind: api.ActFua, At: 2}, api.Act{Disk: 1, Kind: api.ActFlush}
	for _, want := range []struct {
		waits int
		l     []api.Act
		from  int // from so many acts on it is full
	}{
		{1024, []api.Act{write, flush}, 1}, {1024, []api.Act{other, write}, 2}, {1023, []api.Act{write, write, flush}, 2},
		{1024, []api.Act{flush, write}, 3}, {1024, []api.Act{fua, write}, 3}, {1024, []api.Act{other, other}, 3},
		{1022, []api.Act{write, other, write, other, write}, 5}, {1020, []api.Act{write, write, write, write, flush, write}, 7},
		{1024, []api.Act{fua, fua, flush, fua}, 5},
	} {
		disks := []api.Disk{none(2), busy(3, want.waits)}
		for n := range len(want.l) + 1 {
			c, e := acts.Run(disks, want.l, n)
			if n >= want.from {
				refused(t, "Run", c, e, api.ErrFull)
			} else if e != api.OK || len(c) != 2 {
				t.Errorf("first %d of %v: error %d", n, want.l, e)
			}
		}
	}
	writes := slices.Repeat([]api.Act{{Kind: api.ActWrite, Data: filled(1)}}, 1024)
	if c, e := acts.Run([]api.Disk{none(1)}, writes, 1024); e != api.OK || waits(t, c) != 1024 {
		t.Errorf("as many as may wait: error %d", e)
	}
	c, e := acts.Run([]api.Disk{busy(1, 1)}, writes, 1024)
	refused(t, "one more", c, e, api.ErrFull)
	if c, e := acts.Run([]api.Disk{dead(1)}, writes, 1024); e != api.OK || !alike(c, []api.Disk{dead(1)}) {
		t.Errorf("to a dead one: error %d", e)
	}
}

// plain is the chapter's words for acts, on devices that are changed.
func plain(disks []api.Disk, l []api.Act) {
	for _, a := range l {
		d := &disks[a.Disk]
		if d.Dead {
			continue
		}
		var left []api.Write
		for _, w := range d.Wait {
			if a.Kind == 3 {
				d.Blocks[w.At] = w.Data
			} else if a.Kind == 1 || w.At != a.At {
				left = append(left, w)
			}
		}
		d.Wait = left
		if a.Kind == 1 {
			d.Wait = append(d.Wait, api.Write{At: a.At, Data: a.Data})
		}
		if a.Kind == 2 {
			d.Blocks[a.At] = a.Data
		}
	}
}

// chance is a short rule for numbers that look like it.
func chance(seed uint32) func(int) int {
	return func(n int) int {
		seed = seed*1664525 + 1013904223
		return int(seed>>16) % n
	}
}

// script is acts for the devices.
func script(disks []api.Disk, n int, next func(int) int) []api.Act {
	var l []api.Act
	for i := range n {
		a := api.Act{Disk: next(len(disks)), Kind: []uint8{1, 1, 1, 2, 3}[next(5)]}
		if a.Kind != api.ActFlush {
			a.At = next(len(disks[a.Disk].Blocks))
			a.Data = [][]byte{nil, {}, filled(i), filled(i + 1000), make([]byte, api.Size)}[next(5)]
		}
		l = append(l, a)
	}
	return l
}

// P5.2 and P5.5: the first n of a script's acts do what the words say; to do some, and then the others, is to do all.
func TestRun(t *testing.T) {
	well := must(t)
	for seed := range uint32(12) {
		for i, disks := range good() {
			if len(disks[0].Wait) == api.MaxWaits {
				continue
			}
			next := chance(100*seed + uint32(i))
			l := script(disks, 1+next(25), next)
			want := clones(disks)
			for n := range len(l) + 1 {
				if n > 0 {
					plain(want, l[n-1:n])
				}
				some := well(acts.Run(disks, l, n))
				if !alike(some, want) {
					t.Fatalf("devices %d: first %d of %v: %v, not %v", i, n, l, some, want)
				}
				if !alike(well(acts.Run(some, l[n:], len(l)-n)), well(acts.Run(disks, l, len(l)))) {
					t.Fatalf("devices %d: first %d of %v, and then the others", i, n, l)
				}
			}
		}
	}
}

// P5.2: as many acts as may be, all done in their order.
func TestRunLong(t *testing.T) {
	disks := fleet(17)
	l := script(disks, api.MaxActs, chance(5))
	want := clones(disks)
	plain(want, l)
	if c := must(t)(acts.Run(disks, l, api.MaxActs)); !alike(c, want) {
		t.Error("1024 acts")
	}
}

// P5.2: to one that is dead nothing is done, whatever the act; the others go on.
func TestRunDead(t *testing.T) {
	for kind := uint8(1); kind <= 3; kind++ {
		a := api.Act{Disk: 1, Kind: kind}
		if kind != api.ActFlush {
			a.At, a.Data = 2, filled(1)
		}
		l := []api.Act{a, {Disk: 0, Kind: api.ActFua, At: 1, Data: filled(2)}, a}
		disks := []api.Disk{none(2), dead(3)}
		c := must(t)(acts.Run(disks, l, 3))
		lasts(t, c, 0, 1, filled(2))
		if !alike(c[1:], disks[1:]) {
			t.Errorf("kind %d: a dead one is other: %v", kind, c[1])
		}
	}
}

// P5.3: what waits is counted on all devices.
func TestWaits(t *testing.T) {
	for i, disks := range good() {
		want := 0
		for _, d := range disks {
			want += len(d.Wait)
		}
		if n := waits(t, disks); n != want {
			t.Errorf("devices %d: %d, not %d", i, n, want)
		}
	}
	var l []api.Disk
	for i := range 17 {
		l = append(l, busy(1, 1024))
		if n := waits(t, l); n != 1024*(i+1) {
			t.Errorf("%d devices: %d", i+1, n)
		}
	}
}

// crashed is the chapter's words for a crash: marks go on from device to device, and are false behind their end.
func crashed(disks []api.Disk, keep []bool) []api.Disk {
	out, k := clones(disks), 0
	for i := range out {
		for _, w := range out[i].Wait {
			if k < len(keep) && keep[k] {
				out[i].Blocks[w.At] = w.Data
			}
			k++
		}
		out[i].Wait = nil
	}
	return out
}

// P5.3: all marks of all lengths, on devices on which a few wait.
func TestCrashAllMarks(t *testing.T) {
	same := api.Disk{Blocks: [][]byte{filled(1), nil}, Wait: []api.Write{{At: 0, Data: filled(2)}, {At: 0}, {At: 0, Data: filled(3)}}}
	for i, disks := range [][]api.Disk{
		{none(2), dead(2)}, {same}, {dead(1), same, none(3), same}, {busy(3, 4), busy(1, 3), dead(2), busy(2, 1)}, {busy(2, 0), busy(5, 8)},
	} {
		n := waits(t, disks)
		for long := range n + 1 {
			for bits := range 1 << long {
				keep := make([]bool, long)
				for k := range keep {
					keep[k] = bits>>k&1 == 1
				}
				c, e := acts.Crash(disks, keep)
				if e != api.OK || !alike(c, crashed(disks, keep)) || waits(t, c) != 0 {
					t.Fatalf("devices %d: marks %v: %v, error %d", i, keep, c, e)
				}
			}
		}
		for _, more := range []int{1, 2, 100} {
			c, e := acts.Crash(disks, make([]bool, n+more))
			refused(t, "Crash with too many marks", c, e, api.ErrArg)
		}
	}
}

// P5.3 and P5.5: on all kinds of devices; with all marks true what was read lasts, with none what lasted.
func TestCrash(t *testing.T) {
	for i, disks := range good() {
		next := chance(uint32(i))
		n := waits(t, disks)
		for range 20 {
			keep := make([]bool, next(n+1))
			for k := range keep {
				keep[k] = next(3) != 0
			}
			if c := must(t)(acts.Crash(disks, keep)); !alike(c, crashed(disks, keep)) {
				t.Fatalf("devices %d: marks %v", i, keep)
			}
		}
		all := must(t)(acts.Crash(disks, slices.Repeat([]bool{true}, n)))
		no := must(t)(acts.Crash(disks, nil))
		for k, d := range disks {
			if d.Dead {
				if !disk.Same(all[k], d) || !disk.Same(no[k], d) {
					t.Errorf("devices %d: dead one %d is other", i, k)
				}
				continue
			}
			for at := range d.Blocks {
				b, _ := disk.Read(d, at)
				lasts(t, all, k, at, b)
				b, _ = disk.Lasting(d, at)
				lasts(t, no, k, at, b)
			}
		}
		c, e := acts.Crash(disks, make([]bool, n+1))
		refused(t, "Crash with one mark more", c, e, api.ErrArg)
	}
}

// P5.5: behind a crash in a script each block is what lasted there, or what was written there and waited.
func TestCrashInScript(t *testing.T) {
	for seed := range uint32(60) {
		next := chance(seed)
		disks := []api.Disk{none(1 + next(3)), none(2), dead(1), none(1)}
		l := script(disks, 40, next)
		ran := must(t)(acts.Run(disks, l, next(41)))
		keep := make([]bool, next(waits(t, ran)+1))
		for k := range keep {
			keep[k] = next(2) == 0
		}
		c := must(t)(acts.Crash(ran, keep))
		for i, d := range ran {
			if d.Dead {
				continue
			}
			for at := range d.Blocks {
				b, _ := disk.Lasting(c[i], at)
				may := [][]byte{long(d.Blocks[at])}
				for _, w := range d.Wait {
					if w.At == at {
						may = append(may, long(w.Data))
					}
				}
				if !slices.ContainsFunc(may, func(m []byte) bool { return bytes.Equal(m, b) }) {
					t.Fatalf("script %d: device %d at %d is what it never was", seed, i, at)
				}
			}
		}
	}
}

// turned are lists that are each unlike l, by one thing.
func turned(l []api.Act) [][]api.Act {
	out := [][]api.Act{append(slices.Clone(l), api.Act{})}
	for _, i := range []int{0, len(l) / 2, len(l) - 1} {
		if i < 0 || i >= len(l) {
			continue
		}
		out = append(out, slices.Delete(slices.Clone(l), i, i+1))
		turn := func(f func(*api.Act)) {
			c := slices.Clone(l)
			f(&c[i])
			out = append(out, c)
		}
		turn(func(a *api.Act) { a.Disk++ })
		turn(func(a *api.Act) { a.Disk = ^a.Disk })
		turn(func(a *api.Act) { a.Kind++ })
		turn(func(a *api.Act) { a.Kind ^= 128 })
		turn(func(a *api.Act) { a.At++ })
		turn(func(a *api.Act) { a.At = ^a.At })
		turn(func(a *api.Act) { a.Data = append(bytes.Clone(a.Data), 0) })
		turn(func(a *api.Act) { a.Data = append(bytes.Clone(a.Data), make([]byte, api.Size)...) })
		if n := len(l[i].Data); n > 0 {
			turn(func(a *api.Act) { a.Data = nil })
			turn(func(a *api.Act) { a.Data = a.Data[:n-1] })
			for _, k := range []int{0, n / 2, n - 1} {
				turn(func(a *api.Act) { a.Data = bytes.Clone(a.Data); a.Data[k]++ })
			}
		}
	}
	return out
}

// P5.1: Same of lists that are alike, and of those that are unlike by one thing, whether they may be or not.
func TestSame(t *testing.T) {
	disks := fleet(17)
	lists := [][]api.Act{nil, {{}}, {{Kind: 1}}, {{Kind: 1, Data: make([]byte, api.Size)}}, {{Disk: -4, Kind: 200, At: -1, Data: []byte{1, 2, 3}}}}
	lists = append(lists, script(disks, 2, chance(1)), script(disks, 30, chance(2)), slices.Repeat([]api.Act{{Kind: 3}}, 2000))
	for i, l := range lists {
		c := slices.Clone(l)
		for k := range c {
			c[k].Data = append([]byte{}, c[k].Data...)
		}
		if !acts.Same(l, l) || !acts.Same(l, c) || !acts.Same(c, l) {
			t.Errorf("list %d is not the same as itself", i)
		}
		for k, c := range turned(l) {
			if acts.Same(l, c) || acts.Same(c, l) {
				t.Errorf("list %d is the same as its turn %d", i, k)
			}
		}
		for k, c := range lists {
			if acts.Same(l, c) != (i == k) {
				t.Errorf("lists %d and %d", i, k)
			}
		}
	}
	if !acts.Same(nil, []api.Act{}) {
		t.Error("empty and nil")
	}
}

// P5.1: Same asks for acts in their order, not for what they do.
func TestSameInOrder(t *testing.T) {
	a, b := api.Act{Disk: 0, Kind: 1, Data: filled(1)}, api.Act{Disk: 1, Kind: 1, Data: filled(2)}
	if acts.Same([]api.Act{a, b}, []api.Act{b, a}) || acts.Same([]api.Act{a, a}, []api.Act{a}) || acts.Same([]api.Act{a}, []api.Act{a, a}) {
		t.Error("other lists are the same")
	}
}

// memory is all that is handed in, with room on either side of each list and block.
type memory struct {
	disks  []api.Disk
	waits  [][]api.Write
	blocks [][]byte
	lists  [][][]byte
	l      []api.Act
	keep   []bool
}

// room is a block with filled bytes on either side.
func (m *memory) room(b []byte) []byte {
	w := slices.Concat(filled(4), b, filled(5))
	m.blocks = append(m.blocks, w)
	return w[api.Size : api.Size+len(b)]
}

// device is d with room everywhere.
func (m *memory) device(d api.Disk) api.Disk {
	blocks := [][]byte{filled(6)}
	for _, b := range d.Blocks {
		blocks = append(blocks, m.room(b))
	}
	blocks = append(blocks, filled(7), nil)
	wait := []api.Write{{At: 91, Data: filled(8)}}
	for _, w := range d.Wait {
		wait = append(wait, api.Write{At: w.At, Data: m.room(w.Data)})
	}
	wait = append(wait, api.Write{At: 92, Data: filled(9)}, api.Write{})
	m.lists, m.waits = append(m.lists, blocks), append(m.waits, wait)
	return api.Disk{Blocks: blocks[1 : len(d.Blocks)+1], Wait: wait[1 : len(d.Wait)+1], Dead: d.Dead}
}

// roomy lays out devices, acts and marks with room, and answers them cut out of it.
func roomy(disks []api.Disk, l []api.Act, keep []bool) (m *memory, d []api.Disk, a []api.Act, k []bool) {
	m = &memory{disks: []api.Disk{{Dead: true}}, l: []api.Act{{Kind: 77}}, keep: []bool{true}}
	for _, d := range disks {
		m.disks = append(m.disks, m.device(d))
	}
	for _, a := range l {
		a.Data = m.room(a.Data)
		m.l = append(m.l, a)
	}
	m.disks = append(m.disks, api.Disk{Dead: true}, api.Disk{Dead: true})
	m.l = append(m.l, api.Act{Kind: 78}, api.Act{Kind: 79})
	m.keep = slices.Concat(m.keep, keep, slices.Repeat([]bool{true}, 2000))
	return m, m.disks[1 : len(disks)+1], m.l[1 : len(l)+1], m.keep[1 : len(keep)+1]
}

// shot is a copy of all that memory, to be held against it.
func (m *memory) shot() *memory {
	c := &memory{l: slices.Clone(m.l), keep: slices.Clone(m.keep)}
	for i := range c.l {
		c.l[i].Data = bytes.Clone(c.l[i].Data)
	}
	for _, d := range m.disks {
		c.disks = append(c.disks, clone(d))
	}
	for _, b := range m.blocks {
		c.blocks = append(c.blocks, bytes.Clone(b))
	}
	for i := range m.lists {
		d := clone(api.Disk{Blocks: m.lists[i], Wait: m.waits[i]})
		c.lists, c.waits = append(c.lists, d.Blocks), append(c.waits, d.Wait)
	}
	return c
}

// calls asks everything, and answers the devices that are answered.
func calls(disks []api.Disk, l []api.Act, n int, keep []bool) [][]api.Disk {
	acts.Check(l, disks)
	acts.Waits(disks)
	acts.Same(l, l)
	a, _ := acts.Run(disks, l, n)
	b, _ := acts.Crash(disks, keep)
	c, _ := acts.Crash(disks, nil)
	return [][]api.Disk{a, b, c}
}

// P5.4: what is handed in is only read: lists, blocks, marks, and what stands on either side of them.
func TestOnlyRead(t *testing.T) {
	lists := good()[:4]
	lists = append(lists, good()[6:11]...)
	for i, disks := range append(lists, badLists()[:12]...) {
		next := chance(uint32(i))
		l := script(good()[0], 3, next)
		if i < 9 {
			l = script(disks, 12, next)
		}
		for _, marks := range []int{0, 1, 3, 1000} {
			m, d, a, k := roomy(disks, l, slices.Repeat([]bool{true}, marks))
			was := m.shot()
			for _, n := range []int{-1, 0, 1, len(l), len(l) + 1} {
				calls(d, a, n, k)
			}
			if !reflect.DeepEqual(m.shot(), was) {
				t.Fatalf("devices %d: what was handed in is other", i)
			}
		}
	}
}

// parts are all blocks of the devices, as far as their memory goes.
func parts(disks []api.Disk) [][]byte {
	var l [][]byte
	for _, d := range disks[:cap(disks)] {
		for _, b := range d.Blocks[:cap(d.Blocks)] {
			l = append(l, b[:cap(b)])
		}
		for _, w := range d.Wait[:cap(d.Wait)] {
			l = append(l, w.Data[:cap(w.Data)])
		}
	}
	return l
}

// wipe writes over all of the devices.
func wipe(disks []api.Disk) {
	for _, b := range parts(disks) {
		clear(b)
	}
	for _, d := range disks[:cap(disks)] {
		clear(d.Blocks[:cap(d.Blocks)])
		clear(d.Wait[:cap(d.Wait)])
	}
	clear(disks[:cap(disks)])
}

// wholly are some lists of devices, with acts and marks for them, of which each call answers something.
func wholly(each func(disks []api.Disk, l []api.Act, keep []bool)) {
	one := filled(3)
	shared := api.Disk{Blocks: [][]byte{one, one, nil}, Wait: []api.Write{{At: 0, Data: one}, {At: 2, Data: one}, {At: 0, Data: one}}}
	for i, disks := range [][]api.Disk{{none(2)}, {dead(2)}, {shared}, {shared, shared, dead(1), shared}, {busy(3, 5), dead(2), busy(5, 7)}, fleet(17)} {
		waits, _ := acts.Waits(disks)
		for _, n := range []int{0, 1, 9} {
			l := script(disks, n, chance(uint32(i)))
			for k := range l {
				if len(l[k].Data) != 0 {
					l[k].Data = one
				}
			}
			each(disks, l, slices.Repeat([]bool{true}, waits))
		}
	}
}

// copied is acts in other memory.
func copied(l []api.Act) []api.Act {
	c := slices.Clone(l)
	for i := range c {
		c[i].Data = bytes.Clone(c[i].Data)
	}
	return c
}

// P5.4: what is answered shares nothing with what was handed in, nor with another answer.
func TestNewMemory(t *testing.T) {
	wholly(func(disks []api.Disk, l []api.Act, keep []bool) {
		handed, a := clones(disks), copied(l)
		answers, again := calls(handed, a, len(a), keep), calls(handed, a, len(a), keep)
		for _, x := range again {
			wipe(x)
		}
		if !alike(handed, disks) || !acts.Same(a, l) {
			t.Fatal("what was handed in is in an answer")
		}
		wipe(handed)
		for _, x := range a {
			clear(x.Data)
		}
		if !slices.EqualFunc(answers, calls(disks, l, len(l), keep), alike) {
			t.Fatal("an answer shares its memory")
		}
	})
}

// P5.4: no two blocks of one answer share any memory, also where those that were handed in are one.
func TestPartsApart(t *testing.T) {
	wholly(func(disks []api.Disk, l []api.Act, keep []bool) {
		for k, c := range calls(disks, l, len(l), keep) {
			blocks := parts(c)
			for i, b := range blocks {
				for j := range b {
					b[j] = byte(i + 1)
				}
			}
			for i, b := range blocks {
				if len(b) != bytes.Count(b, []byte{byte(i + 1)}) {
					t.Fatalf("answer %d: block %d shares its bytes", k, i)
				}
			}
		}
	})
}
