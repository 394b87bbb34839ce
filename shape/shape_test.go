package shape_test

import (
	"math"
	"math/bits"
	"slices"
	"testing"

	"freeboard/api"
	"freeboard/disk"
	"freeboard/shape"
)

// numbers are a config's stripes, blocks, need, and the blocks of a member and of the journal.
type numbers [5]int

// calls are the calls that answer them, in that order.
func calls() [5]func(api.Config) (int, api.Errno) {
	return [5]func(api.Config) (int, api.Errno){shape.Stripes, shape.Blocks, shape.Need, shape.Member, shape.Journal}
}

// asked are c's numbers, c being one that may be.
func asked(t *testing.T, c api.Config) numbers {
	t.Helper()
	var out numbers
	for i, call := range calls() {
		n, e := call(c)
		if e != api.OK {
			t.Fatalf("%+v: number %d: error %d", c, i, e)
		}
		out[i] = n
	}
	return out
}

// refused holds all calls to answer ErrBad and nothing else.
func refused(t *testing.T, c api.Config) {
	t.Helper()
	if e := shape.Check(c); e != api.ErrBad {
		t.Fatalf("%+v: Check is %d, not ErrBad", c, e)
	}
	for i, call := range calls() {
		if n, e := call(c); n != 0 || e != api.ErrBad {
			t.Fatalf("%+v: number %d is %d, error %d, not ErrBad", c, i, n, e)
		}
	}
}

// counted are the numbers, counted block by block.
func counted(c api.Config) numbers {
	var n numbers
	for range c.Rows {
		for range c.Chunk {
			n[0]++
			for member := range c.Members {
				if member != 0 { // one of them has the parity
					n[1]++
				}
			}
		}
	}
	n[2] = 1 // the note
	for range c.Members {
		n[2]++
	}
	n[3], n[4] = 1, 1 // the label, the super
	for range n[0] {
		n[3]++
	}
	for range c.Log {
		n[4]++
	}
	return n
}

// leastLog is how many blocks the ring has at least: those of each stripe in memory, and of one more.
func leastLog(c api.Config) int {
	n := 0
	for range c.Heads + 1 {
		n += 1 + c.Members
	}
	return n
}

// each goes through all configs but for Id and Log whose other numbers lie between these, on either side.
func each(beside int, do func(api.Config)) {
	for members := 3 - beside; members <= 16+beside; members++ {
		for chunk := 1 - beside; chunk <= 8+beside; chunk++ {
			for rows := 1 - beside; rows <= 8+beside; rows++ {
				for heads := 2 - beside; heads <= 8+beside; heads++ {
					do(api.Config{Id: 5, Members: members, Chunk: chunk, Rows: rows, Heads: heads})
				}
			}
		}
	}
}

// lies tells whether the config's numbers but Log lie within their bounds.
func lies(c api.Config) bool {
	return c.Members >= 3 && c.Members <= 16 && c.Chunk >= 1 && c.Chunk <= 8 && c.Rows >= 1 && c.Rows <= 8 && c.Heads >= 2 && c.Heads <= 8
}

func TestExamples(t *testing.T) {
	c := api.Config{Members: 3, Chunk: 2, Rows: 3, Log: 12, Heads: 2}
	if e := shape.Check(c); e != api.OK {
		t.Errorf("Check: error %d", e)
	}
	if n := asked(t, c); n != (numbers{6, 12, 4, 7, 13}) {
		t.Errorf("numbers %v", n)
	}
	c.Log = 11
	refused(t, c)
	c.Log, c.Members = 255, 17
	refused(t, c)
	refused(t, api.Config{})
}

// P6.1: all configs about the bounds, with all of the ring's sizes.
func TestCheck(t *testing.T) {
	each(2, func(c api.Config) {
		least, well := leastLog(c), lies(c)
		for c.Log = -2; c.Log <= 258; c.Log++ {
			want := api.ErrBad
			if well && c.Log >= least && c.Log <= 255 {
				want = api.OK
			}
			if e := shape.Check(c); e != want {
				t.Fatalf("%+v: Check is %d, not %d", c, e, want)
			}
		}
	})
}

// P6.2: all configs that may be, with all of the ring's sizes.
func TestNumbers(t *testing.T) {
	each(0, func(c api.Config) {
		want := counted(c)
		for c.Log = leastLog(c); c.Log <= 255; c.Log++ {
			want[4] = c.Log + 1
			if n := asked(t, c); n != want {
				t.Fatalf("%+v: %v, not %v", c, n, want)
			}
		}
	})
}

// P6.2: no number of a config that may not be.
func TestRefused(t *testing.T) {
	each(2, func(c api.Config) {
		least := leastLog(c)
		logs := []int{-1, 0, least - 1, 256, 257}
		if !lies(c) {
			logs = append(logs, least, 255)
		}
		for _, c.Log = range logs {
			refused(t, c)
		}
	})
}

// far are numbers far from all bounds, also such as lie within them when their upper bits are cut off, or multiplied are cut off.
func far() []int {
	l := []int{math.MinInt, math.MinInt + 1, math.MinInt / 2, -1 << 31, -1 << 15, -100, -8, -3, 300, 1 << 15, math.MaxInt / 2, math.MaxInt/2 + 1, math.MaxInt - 1, math.MaxInt}
	for _, up := range []int{8, 16, 31, 32, 62, 63} {
		for _, n := range []int{1, 2, 3, 5, 8, 24} {
			if up < bits.UintSize {
				l = append(l, 1<<up+n, n-1<<up)
			}
		}
	}
	return l
}

// turned is c with its field i (as api.Config lists them, Id left out) being n.
func turned(c api.Config, i, n int) api.Config {
	*[]*int{&c.Members, &c.Chunk, &c.Rows, &c.Log, &c.Heads}[i] = n
	return c
}

// P1: each field, each two of them, and all, whatever they are.
func TestFar(t *testing.T) {
	c := api.Config{Members: 5, Chunk: 2, Rows: 4, Log: 100, Heads: 3}
	asked(t, c)
	for _, n := range far() {
		x := c
		for i := range 5 {
			refused(t, turned(c, i, n))
			x = turned(x, i, n)
			for _, m := range far() {
				for j := range i {
					refused(t, turned(turned(c, i, n), j, m))
				}
			}
		}
		refused(t, x)
	}
}

// P6.1: an Id may be any, and turns nothing.
func TestId(t *testing.T) {
	for _, id := range []uint32{0, 1, 2, 255, 256, 1<<31 - 1, 1 << 31, math.MaxUint32} {
		for _, c := range []api.Config{
			{Id: id, Members: 3, Chunk: 1, Rows: 1, Log: 12, Heads: 2},
			{Id: id, Members: 16, Chunk: 8, Rows: 8, Log: 255, Heads: 8},
			{Id: id, Members: 7, Chunk: 3, Rows: 5, Log: 77, Heads: 4},
		} {
			if e := shape.Check(c); e != api.OK {
				t.Errorf("%+v: error %d", c, e)
			}
			if n := asked(t, c); n != counted(c) {
				t.Errorf("%+v: %v", c, n)
			}
		}
		refused(t, api.Config{Id: id})
		refused(t, api.Config{Id: id, Members: 3, Chunk: 1, Rows: 1, Log: 11, Heads: 2})
	}
}

// P6.3: a device may have so many blocks.
func TestDevicesMayBe(t *testing.T) {
	most := 0
	each(0, func(c api.Config) {
		for _, c.Log = range []int{leastLog(c), 255} {
			n := asked(t, c)
			for _, blocks := range n[3:] {
				if blocks > api.MaxBlocks {
					t.Fatalf("%+v: a device of %d blocks", c, blocks)
				}
				most = max(most, blocks)
			}
			if _, e := disk.New(n[3]); e != api.OK {
				t.Fatalf("%+v: no member of %d blocks", c, n[3])
			}
			if _, e := disk.New(n[4]); e != api.OK {
				t.Fatalf("%+v: no journal of %d blocks", c, n[4])
			}
		}
	})
	if most != api.MaxBlocks {
		t.Errorf("the greatest device has %d blocks", most)
	}
}

// P6.3: the ring, all that the journal has but its first block, has room for all of Heads stripes, and of one more; the smallest one for no more.
func TestRoom(t *testing.T) {
	each(0, func(c api.Config) {
		for c.Log = 0; shape.Check(c) != api.OK; c.Log++ {
			if c.Log > api.MaxLog {
				t.Fatalf("%+v: no ring is large enough", c)
			}
		}
		n := asked(t, c)
		left := n[4] - 1
		for range c.Heads + 1 {
			left -= n[2]
		}
		if left != 0 {
			t.Fatalf("%+v: %d blocks of the smallest ring are left", c, left)
		}
	})
}

// P6.3: no two configs that may be have all five numbers, and Heads and Chunk, alike.
func TestUnlike(t *testing.T) {
	var all []uint64
	each(0, func(c api.Config) {
		for c.Log = leastLog(c); c.Log <= 255; c.Log++ {
			key := uint64(c.Heads)<<4 | uint64(c.Chunk)
			for _, n := range asked(t, c) {
				key = key<<10 | uint64(n)
			}
			all = append(all, key)
		}
	})
	slices.Sort(all)
	for i := range all[1:] {
		if all[i] == all[i+1] {
			t.Fatalf("two configs of %b", all[i])
		}
	}
}
