package turn_test

import (
	"math"
	"math/bits"
	"testing"

	"freeboard/api"
	"freeboard/shape"
	"freeboard/turn"
)

// small is the config of the chapter's examples.
func small() api.Config {
	return api.Config{Members: 3, Chunk: 2, Rows: 3, Log: 12, Heads: 2}
}

// call is one of the calls of a stripe, and of a slot or member there.
type call struct {
	name string
	of   func(api.Config, int, int) (int, api.Errno)
	over int // how many more than N - 1 there are of the second number
}

// pairs are the calls of two numbers.
func pairs() [3]call {
	return [3]call{{"Block", turn.Block, 0}, {"Member", turn.Member, 1}, {"Slot", turn.Slot, 1}}
}

// told holds a number that was told to be this one.
func told(t *testing.T, name string, n int, e api.Errno, want int) {
	t.Helper()
	if n != want || e != api.OK {
		t.Fatalf("%s: %d, error %d, not %d", name, n, e, want)
	}
}

// spotted is a block's spot.
func spotted(t *testing.T, c api.Config, block int) api.Spot {
	t.Helper()
	s, e := turn.Spot(c, block)
	if e != api.OK {
		t.Fatalf("%+v: Spot of %d: error %d", c, block, e)
	}
	return s
}

// refusedSpot holds Spot to answer this error and nothing else.
func refusedSpot(t *testing.T, c api.Config, block int, want api.Errno) {
	t.Helper()
	if s, e := turn.Spot(c, block); s != (api.Spot{}) || e != want {
		t.Fatalf("%+v: Spot of %d is %+v, error %d, not %d", c, block, s, e, want)
	}
}

// refusedParity holds Parity to answer this error and nothing else.
func refusedParity(t *testing.T, c api.Config, stripe int, want api.Errno) {
	t.Helper()
	if n, e := turn.Parity(c, stripe); n != 0 || e != want {
		t.Fatalf("%+v: Parity of %d is %d, error %d, not %d", c, stripe, n, e, want)
	}
}

// refusedPair holds a call of two numbers to answer this error and nothing else.
func refusedPair(t *testing.T, k call, c api.Config, a, b int, want api.Errno) {
	t.Helper()
	if n, e := k.of(c, a, b); n != 0 || e != want {
		t.Fatalf("%+v: %s of %d, %d is %d, error %d, not %d", c, k.name, a, b, n, e, want)
	}
}

// refused holds all calls to answer this error and nothing else, whatever the numbers.
func refused(t *testing.T, c api.Config, a, b int, want api.Errno) {
	t.Helper()
	refusedSpot(t, c, a, want)
	refusedParity(t, c, a, want)
	for _, k := range pairs() {
		refusedPair(t, k, c, a, b, want)
	}
}

// each goes through all configs that may be, but for their Ids, with the least and the most of Log and Heads.
func each(do func(api.Config)) {
	for members := 3; members <= 16; members++ {
		for chunk := 1; chunk <= 8; chunk++ {
			for rows := 1; rows <= 8; rows++ {
				c := api.Config{Id: 9, Members: members, Chunk: chunk, Rows: rows, Log: 3 * (members + 1), Heads: 2}
				if rows%2 == 0 {
					c.Id, c.Log, c.Heads = math.MaxUint32, 255, 8
				}
				do(c)
			}
		}
	}
}

// place is what stands in a stripe's slot: on which member, and which block.
type place struct {
	member int
	block  int
}

// laid are all stripes of c, slot by slot and the parity behind them, dealt out by going on one by one: the parity one member down with each row, its slots one up from there, the blocks of a chunk one stripe up each.
func laid(c api.Config) [][]place {
	out := make([][]place, c.Chunk*c.Rows)
	parity, block := c.Members-1, 0
	for r := range c.Rows {
		m := parity
		for range c.Members {
			if m++; m == c.Members {
				m = 0
			}
			for s := r * c.Chunk; s < (r+1)*c.Chunk; s++ {
				if m == parity {
					out[s] = append(out[s], place{m, -1})
					continue
				}
				out[s] = append(out[s], place{m, block})
				block++
			}
		}
		if parity--; parity < 0 {
			parity = c.Members - 1
		}
	}
	return out
}

func TestExamples(t *testing.T) {
	c := small()
	for block, want := range map[int]api.Spot{
		0:  {Stripe: 0, Slot: 0, Member: 0},
		1:  {Stripe: 1, Slot: 0, Member: 0},
		2:  {Stripe: 0, Slot: 1, Member: 1},
		4:  {Stripe: 2, Slot: 0, Member: 2},
		11: {Stripe: 5, Slot: 1, Member: 2},
	} {
		if s := spotted(t, c, block); s != want {
			t.Errorf("Spot of %d is %+v", block, s)
		}
	}
	for stripe, want := range map[int]int{0: 2, 1: 2, 2: 1, 4: 0} {
		n, e := turn.Parity(c, stripe)
		told(t, "Parity", n, e, want)
	}
	for i, want := range []int{6, 1, 1} {
		a := [3][2]int{{2, 1}, {2, 2}, {2, 0}}[i]
		n, e := pairs()[i].of(c, a[0], a[1])
		told(t, pairs()[i].name, n, e, want)
	}
	refusedSpot(t, c, 12, api.ErrArg)
	for i, b := range []int{2, 3, 3} {
		refusedPair(t, pairs()[i], c, 0, b, api.ErrArg)
	}
}

// P7.1, P7.2: all places of all configs that may be, against the ones that are dealt out.
func TestPlaces(t *testing.T) {
	each(func(c api.Config) {
		for s, row := range laid(c) {
			for k, at := range row {
				n, e := turn.Member(c, s, k)
				told(t, "Member", n, e, at.member)
				n, e = turn.Slot(c, s, at.member)
				told(t, "Slot", n, e, k)
				if k == c.Members-1 {
					n, e = turn.Parity(c, s)
					told(t, "Parity", n, e, at.member)
					continue
				}
				n, e = turn.Block(c, s, k)
				told(t, "Block", n, e, at.block)
				if x := spotted(t, c, at.block); x != (api.Spot{Stripe: s, Slot: k, Member: at.member}) {
					t.Fatalf("%+v: Spot of %d is %+v", c, at.block, x)
				}
			}
		}
	})
}

// ErrArg: numbers beside those there are, on either side, in all configs that may be.
func TestBounds(t *testing.T) {
	each(func(c api.Config) {
		stripes := c.Chunk * c.Rows
		blocks := stripes * (c.Members - 1)
		for _, b := range []int{-2, -1, blocks, blocks + 1, stripes * c.Members, blocks + 256, blocks - 1024} {
			refusedSpot(t, c, b, api.ErrArg)
		}
		for _, s := range []int{-2, -1, stripes, stripes + 1, stripes + c.Chunk, 256, stripes - 256} {
			refusedParity(t, c, s, api.ErrArg)
			for _, k := range pairs() {
				for _, b := range []int{-1, 0, c.Members - 2, c.Members + 1} {
					refusedPair(t, k, c, s, b, api.ErrArg)
				}
			}
		}
		for _, k := range pairs() {
			for s := range stripes {
				many := c.Members - 1 + k.over
				for _, b := range []int{-2, -1, many, many + 1, 2 * c.Members, 256, many - 256} {
					refusedPair(t, k, c, s, b, api.ErrArg)
				}
			}
		}
	})
}

// far are numbers far from all bounds, also such as lie within them when their upper bits are cut off, or multiplied are cut off.
func far() []int {
	l := []int{math.MinInt, math.MinInt + 1, math.MinInt / 2, -1 << 31, -1 << 15, -100, -16, 1000, 1 << 15, math.MaxInt / 2, math.MaxInt/2 + 1, math.MaxInt - 1, math.MaxInt}
	for _, up := range []int{10, 16, 31, 32, 62, 63} {
		for _, n := range []int{1, 2, 3, 5, 8, 24} {
			if up < bits.UintSize {
				l = append(l, 1<<up+n, n-1<<up)
			}
		}
	}
	return l
}

// P1: numbers that are far off, each and both, in the smallest, the greatest and another config.
func TestFar(t *testing.T) {
	for _, c := range []api.Config{small(), {Members: 16, Chunk: 8, Rows: 8, Log: 255, Heads: 8}, {Members: 7, Chunk: 3, Rows: 5, Log: 77, Heads: 4}} {
		for _, a := range far() {
			refused(t, c, a, 0, api.ErrArg)
			for _, k := range pairs() {
				refusedPair(t, k, c, 0, a, api.ErrArg)
				for _, b := range far() {
					refusedPair(t, k, c, a, b, api.ErrArg)
				}
			}
		}
	}
}

// mostly are configs that may not be, each for one field or for all.
func mostly() []api.Config {
	l := []api.Config{{}, {Id: 3}, {Members: -3, Chunk: -2, Rows: -3, Log: -12, Heads: -2}}
	for i, bounds := range [5][]int{{-1, 0, 1, 2, 17}, {-1, 0, 9}, {-1, 0, 9}, {-1, 0, 11, 256}, {-1, 0, 1, 3, 9}} {
		for _, n := range append(bounds, far()...) {
			c := small()
			*[]*int{&c.Members, &c.Chunk, &c.Rows, &c.Log, &c.Heads}[i] = n
			l = append(l, c)
		}
	}
	return l
}

// shape.Check's error, ahead of any ErrArg.
func TestConfigFirst(t *testing.T) {
	for _, c := range mostly() {
		if e := shape.Check(c); e != api.ErrBad {
			t.Fatalf("%+v: Check is %d", c, e)
		}
		for _, a := range []int{math.MinInt, -1, 0, 1, 5, 12, 99, math.MaxInt} {
			for _, b := range []int{math.MinInt, -1, 0, 1, 2, 3, 17, math.MaxInt} {
				refused(t, c, a, b, api.ErrBad)
			}
		}
	}
}

// An Id, the ring's size and how many heads there are turn nothing.
func TestNoMatter(t *testing.T) {
	c := small()
	d := c
	d.Id, d.Log, d.Heads = 1<<31+5, 255, 8
	for b := range 12 {
		if x, y := spotted(t, c, b), spotted(t, d, b); x != y {
			t.Errorf("Spot of %d: %+v, and %+v", b, x, y)
		}
	}
	for s := range 6 {
		for b := range 2 {
			for _, k := range pairs() {
				n, e := k.of(c, s, b)
				if e != api.OK {
					t.Errorf("%s of %d, %d: error %d", k.name, s, b, e)
				}
				m, e := k.of(d, s, b)
				told(t, k.name, m, e, n)
			}
		}
	}
}

// P7.3: each block stands in one slot of one stripe, and each slot is one block's.
func TestOneSlotEach(t *testing.T) {
	each(func(c api.Config) {
		stripes, _ := shape.Stripes(c)
		blocks, _ := shape.Blocks(c)
		owner := map[[2]int]int{}
		for b := range blocks {
			x := spotted(t, c, b)
			if x.Stripe < 0 || x.Stripe >= stripes || x.Slot < 0 || x.Slot > c.Members-2 {
				t.Fatalf("%+v: block %d is in no slot: %+v", c, b, x)
			}
			if o, ok := owner[[2]int{x.Stripe, x.Slot}]; ok {
				t.Fatalf("%+v: blocks %d and %d in one slot: %+v", c, o, b, x)
			}
			owner[[2]int{x.Stripe, x.Slot}] = b
		}
		if len(owner) != stripes*(c.Members-1) {
			t.Fatalf("%+v: %d slots have blocks", c, len(owner))
		}
		for at, b := range owner {
			n, e := turn.Block(c, at[0], at[1])
			told(t, "Block", n, e, b)
			n, e = turn.Member(c, at[0], at[1])
			told(t, "Member", n, e, spotted(t, c, b).Member)
		}
	})
}

// P7.3: each member has one slot of each stripe, or its parity.
func TestOneMemberEach(t *testing.T) {
	each(func(c api.Config) {
		stripes, _ := shape.Stripes(c)
		for s := range stripes {
			var has [16]int
			for k := range c.Members {
				m, e := turn.Member(c, s, k)
				if e != api.OK || m < 0 || m >= c.Members {
					t.Fatalf("%+v: Member of %d, %d is %d, error %d", c, s, k, m, e)
				}
				has[m]++
				n, e := turn.Slot(c, s, m)
				told(t, "Slot", n, e, k)
			}
			for m := range c.Members {
				if has[m] != 1 {
					t.Fatalf("%+v: member %d has %d slots of stripe %d", c, m, has[m], s)
				}
			}
			p, e := turn.Parity(c, s)
			if e != api.OK {
				t.Fatal(e)
			}
			m, e := turn.Member(c, s, c.Members-1)
			told(t, "Member of the parity", m, e, p)
		}
	})
}

// P7.3: chunk j is on the member that is what is left of j by N, with all of its blocks.
func TestChunksGoOn(t *testing.T) {
	each(func(c api.Config) {
		blocks, _ := shape.Blocks(c)
		member := 0
		for b := range blocks {
			if b > 0 && b%c.Chunk == 0 {
				if member++; member == c.Members {
					member = 0
				}
			}
			if x := spotted(t, c, b); x.Member != member {
				t.Fatalf("%+v: block %d is on member %d, not %d", c, b, x.Member, member)
			}
		}
	})
}

// P7.3: of N rows in a row each member has the parity once; of fewer, at most once.
func TestParityGoesRound(t *testing.T) {
	each(func(c api.Config) {
		for first := range c.Rows {
			var has [16]int
			last := min(first+c.Members, c.Rows)
			for r := first; r < last; r++ {
				p, e := turn.Parity(c, r*c.Chunk)
				if e != api.OK {
					t.Fatal(e)
				}
				has[p]++
				for s := r * c.Chunk; s < (r+1)*c.Chunk; s++ {
					n, e := turn.Parity(c, s)
					told(t, "Parity of one row", n, e, p)
				}
			}
			for m := range c.Members {
				if has[m] > 1 || last-first == c.Members && has[m] != 1 {
					t.Fatalf("%+v: member %d has %d parities of the rows %d to %d", c, m, has[m], first, last-1)
				}
			}
		}
	})
}
