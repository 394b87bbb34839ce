package split_test

import (
	"bytes"
	"math"
	"math/bits"
	"slices"
	"testing"

	"freeboard/api"
	"freeboard/shape"
	"freeboard/split"
)

// small is the config of the chapter's examples: 4 blocks.
func small() api.Config {
	return api.Config{Members: 3, Chunk: 1, Rows: 2, Log: 12, Heads: 2}
}

// middle is a config of 16 blocks: more than a request has at most.
func middle() api.Config {
	return api.Config{Id: 8, Members: 5, Chunk: 2, Rows: 2, Log: 30, Heads: 3}
}

// great is the config with the most blocks, 960.
func great() api.Config {
	return api.Config{Id: math.MaxUint32, Members: 16, Chunk: 8, Rows: 8, Log: 255, Heads: 8}
}

// each goes through all configs that may be, but for their Ids, with the least and the most of Log and Heads.
func each(do func(api.Config)) {
	for members := 3; members <= 16; members++ {
		for chunk := 1; chunk <= 8; chunk++ {
			for rows := 1; rows <= 8; rows++ {
				c := api.Config{Id: 9, Members: members, Chunk: chunk, Rows: rows, Log: 3 * (members + 1), Heads: 2}
				if rows%2 == 0 {
					c.Id, c.Log, c.Heads = math.MaxUint32, 255, 8
				}
				do(c)
			}
		}
	}
}

// filled are n bytes that are unlike the ones beside them.
func filled(n int) []byte {
	b := make([]byte, n)
	for i := range b {
		b[i] = byte(7*i + i/100 + 1)
	}
	return b
}

// words are what a request of a kind has, by the chapter's words.
type words struct {
	blocks bool
	data   bool
	writes bool
}

// kinds are the kinds there are.
var kinds = map[uint8]words{
	1: {true, false, false}, // read
	2: {true, true, true},   // write
	3: {true, true, true},   // fua
	4: {},                   // flush
	5: {true, false, true},  // discard
	6: {},                   // drain
}

// mayBe is what Check is to tell of a request of an array of so many blocks, block by block.
func mayBe(blocks int, a api.Ask) api.Errno {
	k, ok := kinds[a.Kind]
	if !ok || a.Many < 0 || a.Many > 8 || k.blocks && a.Many == 0 || !k.blocks && (a.Many != 0 || a.At != 0) {
		return api.ErrArg
	}
	bytes := 0
	for i := range a.Many {
		if a.At < 0 || a.At > blocks || a.At+i >= blocks {
			return api.ErrArg
		}
		if k.data {
			bytes += 128
		}
	}
	if len(a.Data) != bytes {
		return api.ErrText
	}
	return api.OK
}

// ask is a request with as many bytes as its kind has.
func ask(kind uint8, at, many int) api.Ask {
	a := api.Ask{Kind: kind, At: at, Many: many}
	if kinds[kind].data {
		a.Data = filled(128 * many)
	}
	return a
}

// asks are all requests that an array of so many blocks may be asked.
func asks(blocks int) []api.Ask {
	out := []api.Ask{ask(4, 0, 0), ask(6, 0, 0)}
	for _, kind := range []uint8{1, 2, 3, 5} {
		for many := 1; many <= 8; many++ {
			for at := 0; at+many <= blocks; at++ {
				out = append(out, ask(kind, at, many))
			}
		}
	}
	return out
}

// short is a request without its bytes, to be told of.
func short(a api.Ask) [4]int {
	return [4]int{int(a.Kind), a.At, a.Many, len(a.Data)}
}

// checked holds Check, and Blocks' error, to be this one.
func checked(t *testing.T, c api.Config, a api.Ask, want api.Errno) {
	t.Helper()
	if e := split.Check(c, a); e != want {
		t.Fatalf("%+v: Check of %v is %d, not %d", c, short(a), e, want)
	}
	l, e := split.Blocks(c, a)
	if e != want || e != api.OK && len(l) != 0 {
		t.Fatalf("%+v: Blocks of %v are %v, error %d, not %d", c, short(a), l, e, want)
	}
}

// told are the blocks of a request that may be.
func told(t *testing.T, c api.Config, a api.Ask) []int {
	t.Helper()
	l, e := split.Blocks(c, a)
	if e != api.OK {
		t.Fatalf("%+v: Blocks of %v: error %d", c, short(a), e)
	}
	return l
}

// touched holds Touch of two requests that may be to be so.
func touched(t *testing.T, c api.Config, a, b api.Ask, want bool) {
	t.Helper()
	if is, e := split.Touch(c, a, b); is != want || e != api.OK {
		t.Fatalf("%+v: Touch of %v and %v is %t, error %d", c, short(a), short(b), is, e)
	}
}

// refused holds Touch to answer this error and nothing else.
func refused(t *testing.T, c api.Config, a, b api.Ask, want api.Errno) {
	t.Helper()
	if is, e := split.Touch(c, a, b); is || e != want {
		t.Fatalf("%+v: Touch of %v and %v is %t, error %d, not %d", c, short(a), short(b), is, e, want)
	}
}

func TestExamples(t *testing.T) {
	c := small()
	if l := told(t, c, ask(1, 1, 2)); !slices.Equal(l, []int{1, 2}) {
		t.Errorf("a read of 2 from 1: %v", l)
	}
	if l := told(t, c, api.Ask{Kind: 4}); len(l) != 0 {
		t.Errorf("a flush: %v", l)
	}
	checked(t, c, ask(1, 3, 2), api.ErrArg)
	checked(t, c, ask(1, 0, 9), api.ErrArg)
	checked(t, c, api.Ask{Kind: 2, Many: 1}, api.ErrText)
	checked(t, c, api.Ask{Kind: 7, Many: 1}, api.ErrArg)
	touched(t, c, ask(2, 1, 1), ask(1, 0, 2), true)
	touched(t, c, ask(1, 0, 1), ask(1, 0, 1), false)
	touched(t, c, ask(5, 0, 1), ask(5, 0, 1), true)
}

// P8.1: in all configs that may be, requests about the bounds of all kinds, At, Many and Data.
func TestCheck(t *testing.T) {
	data := filled(9*128 + 1)
	each(func(c api.Config) {
		blocks := (c.Members - 1) * c.Chunk * c.Rows
		ats := []int{-129, -8, -2, -1, 0, 1, 2, blocks / 2, blocks, blocks + 1, blocks + 256}
		for back := 1; back <= 9; back++ {
			ats = append(ats, blocks-back)
		}
		for kind := range uint8(9) {
			for _, at := range ats {
				for many := -1; many <= 10; many++ {
					right := max(0, min(many, 9)) * 128
					for _, n := range [3]int{0, right, right + 1} {
						a := api.Ask{Kind: kind, At: at, Many: many, Data: data[:n]}
						if e, want := split.Check(c, a), mayBe(blocks, a); e != want {
							t.Fatalf("%+v: Check of %v is %d, not %d", c, short(a), e, want)
						}
					}
				}
			}
		}
	})
}

// P8.1: all requests of a small array, and of one that has more blocks than a request, with all that Data may be long.
func TestData(t *testing.T) {
	data := filled(9*128 + 2)
	for _, c := range []api.Config{small(), middle()} {
		blocks, _ := shape.Blocks(c)
		for _, a := range asks(blocks) {
			for n := range len(data) + 1 {
				a.Data = data[:n]
				if e, want := split.Check(c, a), mayBe(blocks, a); e != want {
					t.Fatalf("%+v: Check of %v is %d, not %d", c, short(a), e, want)
				}
			}
		}
	}
}

// P8.1: data that are empty, and data that are nil, are the same.
func TestEmpty(t *testing.T) {
	c := small()
	for kind := range kinds {
		a := ask(kind, 0, 0)
		if kinds[kind].blocks {
			a = ask(kind, 1, 2)
		}
		want := api.OK
		if kinds[kind].data {
			want = api.ErrText
		}
		for _, a.Data = range [][]byte{nil, {}, filled(5)[2:2]} {
			checked(t, c, a, want)
		}
	}
}

// P8.1: whatever number stands for a kind, with and without blocks and data.
func TestKinds(t *testing.T) {
	c := small()
	for kind := range 256 {
		for _, a := range []api.Ask{{}, {Many: 1}, {At: 1, Many: 2}, {Many: 1, Data: filled(128)}, {Data: filled(128)}, {At: 1}} {
			a.Kind = uint8(kind)
			checked(t, c, a, mayBe(4, a))
			if kind < 1 || kind > 6 {
				checked(t, c, a, api.ErrArg)
				refused(t, c, a, ask(1, 0, 1), api.ErrArg)
				refused(t, c, ask(5, 0, 1), a, api.ErrArg)
			}
		}
	}
}

// far are numbers far from all bounds, also such as lie within them when their upper bits are cut off, or multiplied are cut off.
func far() []int {
	l := []int{math.MinInt, math.MinInt + 1, math.MinInt + 8, math.MinInt / 2, -1 << 31, -1 << 15, -1000, -100, -16, 1000, 1 << 15, math.MaxInt / 2, math.MaxInt/2 + 1, math.MaxInt - 7, math.MaxInt - 1, math.MaxInt}
	for _, up := range []int{10, 16, 25, 31, 32, 57, 62, 63} {
		for _, n := range []int{1, 2, 3, 5, 8, 24} {
			if up < bits.UintSize {
				l = append(l, 1<<up+n, n-1<<up)
			}
		}
	}
	return l
}

// P1: At and Many that are far off, each and both, whatever the kind and the data.
func TestFar(t *testing.T) {
	one := ask(2, 0, 1)
	for _, c := range []api.Config{small(), middle(), great()} {
		for kind := range uint8(9) {
			for _, n := range far() {
				l := []api.Ask{{At: n, Many: 1}, {At: n, Many: 8}, {At: n}, {At: 1, Many: n}, {Many: n}}
				for _, m := range far() {
					l = append(l, api.Ask{At: n, Many: m})
				}
				for _, a := range l {
					a.Kind = kind
					for _, a.Data = range [][]byte{nil, one.Data} {
						checked(t, c, a, api.ErrArg)
						refused(t, c, a, one, api.ErrArg)
						refused(t, c, one, a, api.ErrArg)
					}
				}
			}
		}
	}
}

// mostly are configs that may not be, each for one field or for all.
func mostly() []api.Config {
	l := []api.Config{{}, {Id: 3}, {Members: -3, Chunk: -2, Rows: -3, Log: -12, Heads: -2}}
	for i, bounds := range [5][]int{{-1, 0, 1, 2, 17}, {-1, 0, 9}, {-1, 0, 9}, {-1, 0, 11, 256}, {-1, 0, 1, 3, 9}} {
		for _, n := range append(bounds, far()...) {
			c := small()
			*[]*int{&c.Members, &c.Chunk, &c.Rows, &c.Log, &c.Heads}[i] = n
			l = append(l, c)
		}
	}
	return l
}

// shape.Check's error, ahead of any other one.
func TestConfigFirst(t *testing.T) {
	l := []api.Ask{
		ask(1, 0, 1), ask(2, 1, 2), ask(3, 0, 1), ask(4, 0, 0), ask(5, 3, 1), ask(6, 0, 0), // they may be, in a small array
		{}, {Kind: 7}, {Kind: 1, At: -1, Many: 1}, {Kind: 1, Many: 9}, {Kind: 4, At: 1}, // ErrArg there
		{Kind: 2, Many: 1}, {Kind: 1, Many: 1, Data: filled(128)}, {Kind: 6, Data: filled(1)}, // ErrText there
	}
	for _, c := range mostly() {
		if e := shape.Check(c); e != api.ErrBad {
			t.Fatalf("%+v: Check is %d", c, e)
		}
		for _, a := range l {
			checked(t, c, a, api.ErrBad)
			for _, b := range l {
				refused(t, c, a, b, api.ErrBad)
			}
		}
	}
}

// P8.1: ErrArg ahead of ErrText, whatever ErrArg is told for.
func TestArgFirst(t *testing.T) {
	for kind := range uint8(9) {
		for _, a := range []api.Ask{{At: -1, Many: 1}, {At: 4, Many: 1}, {At: 3, Many: 2}, {Many: 5}, {Many: 9}, {Many: -1}, {At: 1}} {
			for _, n := range []int{0, 1, 127, 129, 640, 1152} {
				a.Kind, a.Data = kind, filled(n)
				checked(t, small(), a, api.ErrArg)
			}
		}
	}
}

// P8.2: Touch has a's error, then b's.
func TestTouchErrors(t *testing.T) {
	c := small()
	l := []api.Ask{
		ask(1, 0, 1), ask(2, 3, 1), ask(4, 0, 0), ask(5, 1, 2),
		{}, {Kind: 200}, {Kind: 1, At: 4, Many: 1}, {Kind: 3, Many: 9, Data: filled(9 * 128)}, {Kind: 6, Many: 1},
		{Kind: 2, Many: 1}, {Kind: 3, Many: 2, Data: filled(128)}, {Kind: 5, Many: 1, Data: filled(128)}, {Kind: 4, Data: filled(1)},
	}
	for _, a := range l {
		for _, b := range l {
			want := mayBe(4, a)
			if want == api.OK {
				want = mayBe(4, b)
			}
			if want != api.OK {
				refused(t, c, a, b, want)
			}
		}
	}
}

// P8.2, P8.4: in all configs that may be, a request's blocks are all told, each once, and rising: those from At on.
func TestBlocks(t *testing.T) {
	each(func(c api.Config) {
		blocks := (c.Members - 1) * c.Chunk * c.Rows
		for _, at := range []int{0, 1, blocks / 2, blocks - 9, blocks - 8, blocks - 2, blocks - 1} {
			for many := 1; many <= 8; many++ {
				if at < 0 || at+many > blocks {
					continue
				}
				for _, kind := range []uint8{1, 2, 3, 5} {
					l := told(t, c, ask(kind, at, many))
					if len(l) != many {
						t.Fatalf("%+v: %d of %d from %d: %v", c, kind, many, at, l)
					}
					for i, n := range l {
						if n != at+i {
							t.Fatalf("%+v: %d of %d from %d: %v", c, kind, many, at, l)
						}
					}
				}
			}
		}
		for _, kind := range []uint8{4, 6} {
			if l := told(t, c, ask(kind, 0, 0)); len(l) != 0 {
				t.Fatalf("%+v: %d has blocks %v", c, kind, l)
			}
		}
	})
}

// meet tells, by the chapter's words, whether two requests touch.
func meet(a, b api.Ask) bool {
	if !kinds[a.Kind].writes && !kinds[b.Kind].writes {
		return false
	}
	for i := range a.Many {
		for k := range b.Many {
			if a.At+i == b.At+k {
				return true
			}
		}
	}
	return false
}

// P8.2: each two requests of a small array, and of one that has more blocks than a request.
func TestTouch(t *testing.T) {
	for _, c := range []api.Config{small(), middle()} {
		blocks, _ := shape.Blocks(c)
		l := asks(blocks)
		for _, a := range l {
			for _, b := range l {
				touched(t, c, a, b, meet(a, b))
			}
		}
	}
}

// P8.2: requests side by side, and one in the other, all over the greatest array.
func TestTouchFarUp(t *testing.T) {
	c := great()
	for at := 0; at+8 <= 960; at++ {
		w := ask(uint8(2+at%2), at, 1+at%8)
		for _, b := range []int{0, at - 256, at - 8, at - 1, at, at + 1, at + w.Many - 1, at + w.Many, at + 256, 952} {
			if b < 0 || b > 952 {
				continue
			}
			r := ask(1, b, 1+at%3)
			touched(t, c, w, r, meet(w, r))
			touched(t, c, r, w, meet(w, r))
		}
	}
}

// P8.4: touching is mutual; one that writes touches itself; of two that do not write none touches.
func TestTouchFollows(t *testing.T) {
	c := middle()
	l := asks(16)
	for _, a := range l {
		touched(t, c, a, a, kinds[a.Kind].writes)
		for _, b := range l {
			is, e := split.Touch(c, a, b)
			if e != api.OK {
				t.Fatal(e)
			}
			touched(t, c, b, a, is)
			if is && !kinds[a.Kind].writes && !kinds[b.Kind].writes {
				t.Fatalf("%v and %v touch", short(a), short(b))
			}
		}
	}
}

// Data's bytes, an Id, the ring's size and how many heads there are turn nothing.
func TestNoMatter(t *testing.T) {
	c := small()
	d := c
	d.Id, d.Log, d.Heads = 1<<31+5, 255, 8
	for _, a := range asks(4) {
		x := a
		x.Data = make([]byte, len(a.Data))
		if l, m := told(t, c, a), told(t, d, x); !slices.Equal(l, m) {
			t.Errorf("%v: %v, and %v", short(a), l, m)
		}
		for _, b := range asks(4) {
			touched(t, d, x, b, meet(a, b))
		}
	}
}

// P8.3: data that are handed in, and what stands on either side of them, are only read, also where there is an error.
func TestOnlyRead(t *testing.T) {
	c := small()
	for kind := range uint8(8) {
		for many := range 5 {
			for _, n := range []int{many * 128, many*128 + 1} {
				all := filled(n + 192)
				was := bytes.Clone(all)
				a := api.Ask{Kind: kind, Many: many, Data: all[32 : 32+n]}
				b := api.Ask{Kind: api.AskWrite, Many: 1, Data: all[32+n : 160+n]}
				split.Check(c, a)
				split.Blocks(c, a)
				split.Touch(c, a, b)
				split.Touch(c, b, a)
				if !bytes.Equal(all, was) {
					t.Fatalf("%v: turned", short(a))
				}
			}
		}
	}
}

// P8.3: what is answered is new memory: writing into an answer turns no other one, and no data.
func TestNewMemory(t *testing.T) {
	c := middle()
	for _, a := range asks(16) {
		was := bytes.Clone(a.Data)
		first, second := told(t, c, a), told(t, c, a)
		whole := first[:cap(first)]
		for i := range whole {
			whole[i] = -7
		}
		for _, l := range [][]int{second, told(t, c, a)} {
			if len(l) != a.Many || a.Many > 0 && (l[0] != a.At || l[a.Many-1] != a.At+a.Many-1) {
				t.Fatalf("%v: turned to %v", short(a), l)
			}
		}
		if !bytes.Equal(a.Data, was) {
			t.Fatalf("%v: data turned", short(a))
		}
	}
}
