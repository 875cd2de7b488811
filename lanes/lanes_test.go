package lanes_test

import (
	"fmt"
	"math"
	"math/bits"
	"slices"
	"testing"

	"jacquard/api"
	"jacquard/lanes"
)

var allWidths = []int{8, 16, 32, 64}

// v is the document's V: each of its bytes is its own number.
var v = api.Vec{Lo: 0x0706050403020100, Hi: 0x0f0e0d0c0b0a0908}

// ones are all bits of a vector.
var ones = api.Vec{Lo: math.MaxUint64, Hi: math.MaxUint64}

// row is a vector as its bits, the lowest first: what answers are held against is made
// of these, one by one, so that it has no word and no shift in common with the layer.
type row [128]bool

// rowOf goes by the document's first sentence: two words of 64 bits, the lower first.
func rowOf(u api.Vec) row {
	var r row
	for i := range 64 {
		r[i] = u.Lo&(1<<i) != 0
		r[64+i] = u.Hi&(1<<i) != 0
	}
	return r
}

func (r row) vec() api.Vec {
	var u api.Vec
	for i := range 64 {
		if r[i] {
			u.Lo += 1 << i
		}
		if r[64+i] {
			u.Hi += 1 << i
		}
	}
	return u
}

// lane is the number whose bits are those from i w on, w many.
func (r row) lane(w, i int) uint64 {
	n := uint64(0)
	for k := w - 1; k >= 0; k-- {
		n *= 2
		if r[i*w+k] {
			n++
		}
	}
	return n
}

// with is the row, but with n as its lane i.
func (r row) with(w, i int, n uint64) row {
	for k := range w {
		r[i*w+k] = n%2 == 1
		n /= 2
	}
	return r
}

// top is the greatest number of width w.
func top(w int) uint64 {
	n := uint64(1)
	for range w - 1 {
		n = 2*n + 1
	}
	return n
}

// chance are numbers without an order, the same ones in each run.
type chance uint64

func (c *chance) next() uint64 {
	*c = *c*6364136223846793005 + 1442695040888963407
	return bits.RotateLeft64(uint64(*c), 29) * 0x9e3779b97f4a7c15
}

func (c *chance) vec() api.Vec {
	return api.Vec{Lo: c.next(), Hi: c.next()}
}

// vectors are noughts, ones, the document's, those of which a single bit is 1 or 0, and others.
func vectors() []api.Vec {
	l := []api.Vec{{}, ones, v, {Lo: math.MaxUint64}, {Hi: math.MaxUint64}, {Lo: 1 << 63, Hi: 1}}
	for i := range 64 {
		b := uint64(1) << i
		l = append(l, api.Vec{Lo: b}, api.Vec{Hi: b}, api.Vec{Lo: ^b, Hi: math.MaxUint64}, api.Vec{Lo: math.MaxUint64, Hi: ^b})
	}
	c := chance(6)
	for range 100 {
		l = append(l, c.vec())
	}
	return l
}

// numbers are some of width w: its edges, its single bits, and others.
func numbers(w int) []uint64 {
	l := []uint64{0, 1, 2, top(w), top(w) - 1, top(w) / 2, top(w)/2 + 1}
	for i := range w {
		l = append(l, uint64(1)<<i)
	}
	c := chance(w)
	for range 8 {
		l = append(l, c.next()&top(w))
	}
	return l
}

// tooGreat are numbers above those of width w, the one just above them first; of 64 there are none.
func tooGreat(w int) []uint64 {
	if w == 64 {
		return nil
	}
	l := []uint64{top(w) + 1, top(w) + 2, 2*top(w) + 1, math.MaxUint64, math.MaxUint64 - 1}
	for i := w; i < 64; i++ {
		l = append(l, 1<<i)
	}
	return l
}

// noWidths are all near those that are, and some far off, of which the lowest bits are a width.
func noWidths() []int {
	l := []int{math.MinInt, math.MaxInt, math.MaxInt - 63, 1 << 16, 512}
	for _, w := range allWidths {
		l = append(l, math.MinInt+w, 256+w, 1<<16+w, -w)
	}
	for w := -140; w <= 140; w++ {
		if !slices.Contains(allWidths, w) {
			l = append(l, w)
		}
	}
	return l
}

// noLanes are places at which a vector of width w has no lane; times w some of them are
// a number of bits again, once what does not fit an int is gone.
func noLanes(w int) []int {
	count := 128 / w
	l := []int{math.MinInt, math.MinInt + 1, math.MinInt + count - 1, math.MaxInt, math.MaxInt - 1}
	for i := 1; i <= 40; i++ {
		l = append(l, -i, count+i-1)
	}
	for k := range bits.UintSize - 1 {
		p := 1 << k
		l = append(l, -p)
		if p >= count {
			l = append(l, p, p+1)
		}
	}
	return l
}

// rest is a list of n numbers, and the whole of which it is the beginning: what is behind its end must stay, too.
func rest(n int, fill uint64) (l, all []uint64) {
	all = make([]uint64, n+5)
	for i := range all {
		all[i] = fill
	}
	return all[:n], all
}

func holdVec(t *testing.T, what string, got api.Vec, e api.Errno, want api.Vec) {
	t.Helper()
	if got != want || e != api.OK {
		t.Errorf("%s = %016x %016x, %v; want %016x %016x", what, got.Lo, got.Hi, e, want.Lo, want.Hi)
	}
}

// refused holds that a vector is its zero value beside ErrArg.
func refused(t *testing.T, what string, got api.Vec, e api.Errno) {
	t.Helper()
	if got != (api.Vec{}) || e != api.ErrArg {
		t.Errorf("%s = %016x %016x, %v; want ErrArg alone", what, got.Lo, got.Hi, e)
	}
}

func refusedGet(t *testing.T, w, i int) {
	t.Helper()
	if n, e := lanes.Get(ones, w, i); n != 0 || e != api.ErrArg {
		t.Errorf("Get(%d, %d) = %x, %v; want ErrArg alone", w, i, n, e)
	}
}

func refusedSet(t *testing.T, w, i int, n uint64) {
	t.Helper()
	u, e := lanes.Set(ones, w, i, n)
	refused(t, fmt.Sprintf("Set(%d, %d, %x)", w, i, n), u, e)
}

func refusedSplat(t *testing.T, w int, n uint64) {
	t.Helper()
	u, e := lanes.Splat(w, n)
	refused(t, fmt.Sprintf("Splat(%d, %x)", w, n), u, e)
}

func refusedOf(t *testing.T, w int, l []uint64) {
	t.Helper()
	u, e := lanes.Of(w, l)
	refused(t, fmt.Sprintf("Of(%d, %x)", w, l), u, e)
}

// P6.1, P6.2, P6.3: the document's examples.
func TestExamples(t *testing.T) {
	if n, e := lanes.Get(v, 16, 1); n != 0x0302 || e != api.OK {
		t.Errorf("Get(V, 16, 1) = %x, %v", n, e)
	}
	if n, e := lanes.Get(v, 64, 1); n != 0x0f0e0d0c0b0a0908 || e != api.OK {
		t.Errorf("Get(V, 64, 1) = %x, %v", n, e)
	}
	refusedGet(t, 8, 16)
	u, e := lanes.Set(v, 8, 0, 0xff)
	holdVec(t, "Set(V, 8, 0, ff)", u, e, api.Vec{Lo: 0x07060504030201ff, Hi: v.Hi})
	u, e = lanes.Splat(32, 1)
	holdVec(t, "Splat(32, 1)", u, e, api.Vec{Lo: 0x0000000100000001, Hi: 0x0000000100000001})
	u = lanes.Swizzle(v, api.Vec{Lo: 0x1010101000ff100f, Hi: 0x1010101010101010})
	holdVec(t, "Swizzle", u, api.OK, api.Vec{Lo: 0x0f})
	a, _ := lanes.Splat(8, 0xff)
	b, _ := lanes.Splat(8, 0x0f)
	c, _ := lanes.Splat(8, 0x3c)
	u, e = lanes.Bits(api.BSelect, a, b, c)
	holdVec(t, "Bits(BSelect)", u, e, api.Vec{Lo: 0x3f3f3f3f3f3f3f3f, Hi: 0x3f3f3f3f3f3f3f3f})
	if lanes.Any(api.Vec{}) {
		t.Error("Any(zero)")
	}
}

// P6.1: Get and All of V, by hand; the lanes at the border of both words among them.
func TestLanesByHand(t *testing.T) {
	for w, want := range map[int][]uint64{
		8:  {0, 1, 2, 3, 4, 5, 6, 7, 8, 9, 10, 11, 12, 13, 14, 15},
		16: {0x0100, 0x0302, 0x0504, 0x0706, 0x0908, 0x0b0a, 0x0d0c, 0x0f0e},
		32: {0x03020100, 0x07060504, 0x0b0a0908, 0x0f0e0d0c},
		64: {0x0706050403020100, 0x0f0e0d0c0b0a0908},
	} {
		for i, n := range want {
			if got, e := lanes.Get(v, w, i); got != n || e != api.OK {
				t.Errorf("Get(V, %d, %d) = %x, %v; want %x", w, i, got, e, n)
			}
		}
		if l, e := lanes.All(v, w); !slices.Equal(l, want) || e != api.OK {
			t.Errorf("All(V, %d) = %x, %v", w, l, e)
		}
		u, e := lanes.Of(w, want)
		holdVec(t, fmt.Sprintf("Of(%d)", w), u, e, v)
	}
}

// P6.1: Set by hand, in the lower word, in the higher one, and beside the border.
func TestSetByHand(t *testing.T) {
	for _, c := range []struct {
		w, i   int
		n      uint64
		lo, hi uint64
	}{
		{8, 0, 0xee, 0x07060504030201ee, v.Hi}, {8, 7, 0xee, 0xee06050403020100, v.Hi},
		{8, 8, 0xee, v.Lo, 0x0f0e0d0c0b0a09ee}, {8, 15, 0xee, v.Lo, 0xee0e0d0c0b0a0908},
		{16, 0, 0xeedd, 0x070605040302eedd, v.Hi}, {16, 3, 0xeedd, 0xeedd050403020100, v.Hi},
		{16, 4, 0xeedd, v.Lo, 0x0f0e0d0c0b0aeedd}, {16, 7, 0xeedd, v.Lo, 0xeedd0d0c0b0a0908},
		{32, 0, 0xeeddccbb, 0x07060504eeddccbb, v.Hi}, {32, 1, 0xeeddccbb, 0xeeddccbb03020100, v.Hi},
		{32, 2, 0xeeddccbb, v.Lo, 0x0f0e0d0ceeddccbb}, {32, 3, 0xeeddccbb, v.Lo, 0xeeddccbb0b0a0908},
		{64, 0, 0xeeddccbbaa998877, 0xeeddccbbaa998877, v.Hi}, {64, 1, 0xeeddccbbaa998877, v.Lo, 0xeeddccbbaa998877},
		{8, 3, 0, 0x0706050400020100, v.Hi}, {16, 5, 0, v.Lo, 0x0f0e0d0c00000908},
		{32, 1, 0, 0x0000000003020100, v.Hi}, {64, 1, 0, v.Lo, 0},
	} {
		u, e := lanes.Set(v, c.w, c.i, c.n)
		holdVec(t, fmt.Sprintf("Set(V, %d, %d, %x)", c.w, c.i, c.n), u, e, api.Vec{Lo: c.lo, Hi: c.hi})
	}
}

// P6.1: Splat by hand, of the greatest number of each width, too.
func TestSplatByHand(t *testing.T) {
	for _, c := range []struct {
		w       int
		n, want uint64
	}{
		{8, 0xab, 0xabababababababab}, {16, 0xabcd, 0xabcdabcdabcdabcd}, {32, 0xabcdef01, 0xabcdef01abcdef01},
		{64, 0xabcdef0123456789, 0xabcdef0123456789}, {16, 0xab, 0x00ab00ab00ab00ab}, {64, 1, 1},
		{8, 0xff, math.MaxUint64}, {16, 0xffff, math.MaxUint64}, {32, 0xffffffff, math.MaxUint64}, {64, math.MaxUint64, math.MaxUint64},
		{8, 0, 0}, {16, 0, 0}, {32, 0, 0}, {64, 0, 0},
	} {
		u, e := lanes.Splat(c.w, c.n)
		holdVec(t, fmt.Sprintf("Splat(%d, %x)", c.w, c.n), u, e, api.Vec{Lo: c.want, Hi: c.want})
	}
}

// P6.1: Get, All and Of of every lane of every width, against the document's words.
func TestLanesByTheWords(t *testing.T) {
	for _, u := range vectors() {
		r := rowOf(u)
		for _, w := range allWidths {
			want := []uint64{}
			for i := range 128 / w {
				want = append(want, r.lane(w, i))
				if n, e := lanes.Get(u, w, i); n != want[i] || e != api.OK {
					t.Errorf("Get(%x, %d, %d) = %x, %v; want %x", u, w, i, n, e, want[i])
				}
			}
			if l, e := lanes.All(u, w); !slices.Equal(l, want) || e != api.OK {
				t.Errorf("All(%x, %d) = %x, %v; want %x", u, w, l, e, want)
			}
			got, e := lanes.Of(w, want)
			holdVec(t, fmt.Sprintf("Of(%d, %x)", w, want), got, e, u)
		}
	}
}

// P6.1: Set and Splat of every lane of every width, against the document's words.
func TestSetByTheWords(t *testing.T) {
	c := chance(1)
	for _, w := range allWidths {
		for _, n := range numbers(w) {
			all := row{}
			for i := range 128 / w {
				all = all.with(w, i, n)
				for _, u := range []api.Vec{{}, ones, v, c.vec()} {
					got, e := lanes.Set(u, w, i, n)
					holdVec(t, fmt.Sprintf("Set(%x, %d, %d, %x)", u, w, i, n), got, e, rowOf(u).with(w, i, n).vec())
				}
			}
			got, e := lanes.Splat(w, n)
			holdVec(t, fmt.Sprintf("Splat(%d, %x)", w, n), got, e, all.vec())
		}
	}
}

// P6.1: a width that is none.
func TestNoWidths(t *testing.T) {
	for _, w := range noWidths() {
		for _, i := range []int{-1, 0, 1, 15, 16} {
			refusedGet(t, w, i)
			refusedSet(t, w, i, 0)
			refusedSet(t, w, i, 1)
		}
		for _, n := range []uint64{0, 1, 255, math.MaxUint64} {
			refusedSplat(t, w, n)
		}
		for n := range 20 {
			l, _ := rest(n, 0)
			refusedOf(t, w, l)
		}
		refusedOf(t, w, nil)
		if l, e := lanes.All(ones, w); len(l) != 0 || e != api.ErrArg {
			t.Errorf("All(%d) = %x, %v", w, l, e)
		}
	}
}

// P6.1: lanes that there are not.
func TestNoLanes(t *testing.T) {
	for _, w := range allWidths {
		for _, i := range noLanes(w) {
			refusedGet(t, w, i)
			refusedSet(t, w, i, 0)
			refusedSet(t, w, i, top(w))
		}
	}
}

// P6.1: the greatest number of each width, at each lane, and those above it.
func TestNoNumbers(t *testing.T) {
	for _, w := range allWidths {
		count := 128 / w
		for i := range count {
			u, e := lanes.Set(api.Vec{}, w, i, top(w))
			holdVec(t, fmt.Sprintf("Set(%d, %d, %x)", w, i, top(w)), u, e, row{}.with(w, i, top(w)).vec())
			l, _ := rest(count, 0)
			l[i] = top(w)
			u, e = lanes.Of(w, l)
			holdVec(t, fmt.Sprintf("Of(%d, %x)", w, l), u, e, row{}.with(w, i, top(w)).vec())
			// Of lanes that are not 0 nothing may be left.
			l, _ = rest(count, 1)
			for _, n := range tooGreat(w) {
				refusedSet(t, w, i, n)
				l[i] = n
				refusedOf(t, w, l)
			}
		}
		for _, n := range tooGreat(w) {
			refusedSplat(t, w, n)
			l, _ := rest(count, n)
			refusedOf(t, w, l)
		}
	}
}

// P6.1: lists that have not as many numbers as there are lanes: none, one less, one more, and so on.
func TestOfLengths(t *testing.T) {
	for _, w := range allWidths {
		count := 128 / w
		refusedOf(t, w, nil)
		refusedOf(t, w, []uint64{})
		for n := range 40 {
			if l, _ := rest(n, 1); n != count {
				refusedOf(t, w, l)
			}
		}
		for _, n := range []int{count - 1, count + 1, 127, 128, 129, 256 + count, 1<<16 + count} {
			l, _ := rest(n, 0)
			refusedOf(t, w, l)
		}
		// How much room there is behind the end is nothing to it.
		l, _ := rest(count, 1)
		u, e := lanes.Of(w, l)
		want, _ := lanes.Splat(w, 1)
		holdVec(t, fmt.Sprintf("Of(%d)", w), u, e, want)
	}
}

// P6.1: what is handed to Of stays, the room behind its end too, and nothing of it is kept.
func TestOfKeepsNothing(t *testing.T) {
	for _, w := range allWidths {
		for _, n := range []int{128 / w, 128/w - 1, 128/w + 1, 0} {
			for _, fill := range []uint64{top(w), 3} {
				l, all := rest(n, fill)
				was := slices.Clone(all)
				lanes.Of(w, l)
				if !slices.Equal(all, was) {
					t.Errorf("Of(%d) makes %x of %x", w, all, was)
				}
			}
		}
		l, _ := lanes.All(v, w)
		u, _ := lanes.Of(w, l)
		for i := range l {
			l[i] = top(w)
		}
		got, e := lanes.All(u, w)
		if want, _ := lanes.All(v, w); !slices.Equal(got, want) || e != api.OK {
			t.Errorf("width %d: written over, the list of Of changes a vector to %x", w, got)
		}
		if again, e := lanes.Of(w, got); again != v || e != api.OK {
			t.Errorf("width %d: Of = %x, %v behind a list that was written over", w, again, e)
		}
	}
}

// P6.1: All's list is new memory, to its last room: written over it changes no other answer, earlier or later.
func TestAllIsNew(t *testing.T) {
	for _, w := range allWidths {
		earlier, _ := lanes.All(v, w)
		want := slices.Clone(earlier)
		l, _ := lanes.All(v, w)
		l = l[:cap(l)]
		for i := range l {
			l[i] = 0xdead
		}
		if !slices.Equal(earlier, want) {
			t.Errorf("width %d: an earlier answer is %x now", w, earlier)
		}
		if later, e := lanes.All(v, w); !slices.Equal(later, want) || e != api.OK {
			t.Errorf("width %d: a later answer is %x, %v", w, later, e)
		}
	}
}

// P6.2: Bytes and OfBytes by hand.
func TestBytesByHand(t *testing.T) {
	if b := lanes.Bytes(v); b != [16]byte{0, 1, 2, 3, 4, 5, 6, 7, 8, 9, 10, 11, 12, 13, 14, 15} {
		t.Errorf("Bytes(V) = %x", b)
	}
	u := api.Vec{Lo: 0xff00000000000080, Hi: 0x7f000000000000fe}
	b := [16]byte{0: 0x80, 7: 0xff, 8: 0xfe, 15: 0x7f}
	if got := lanes.Bytes(u); got != b {
		t.Errorf("Bytes(%x) = %x", u, got)
	}
	holdVec(t, "OfBytes", lanes.OfBytes(b), api.OK, u)
}

// P6.2: bytes are the lanes of the width 8, in order; every byte at every place.
func TestBytesByTheWords(t *testing.T) {
	for _, u := range vectors() {
		r, want := rowOf(u), [16]byte{}
		for i := range want {
			want[i] = byte(r.lane(8, i))
		}
		if b := lanes.Bytes(u); b != want {
			t.Errorf("Bytes(%x) = %x; want %x", u, b, want)
		}
		holdVec(t, fmt.Sprintf("OfBytes(%x)", want), lanes.OfBytes(want), api.OK, u)
	}
	for i := range 16 {
		for n := range 256 {
			var b [16]byte
			b[i] = byte(n)
			holdVec(t, fmt.Sprintf("OfBytes(%x)", b), lanes.OfBytes(b), api.OK, row{}.with(8, i, uint64(n)).vec())
		}
	}
}

// wantShuffle is what the document says: a's bytes and behind them b's, by their numbers.
func wantShuffle(a, b api.Vec, l [16]byte) api.Vec {
	var both [32]uint64
	for i := range 16 {
		both[i], both[16+i] = rowOf(a).lane(8, i), rowOf(b).lane(8, i)
	}
	var r row
	for i, n := range l {
		r = r.with(8, i, both[n])
	}
	return r.vec()
}

// P6.2: Shuffle by hand; 0, 15, 16 and 31 at both ends of the list.
func TestShuffleByHand(t *testing.T) {
	b := api.Vec{Lo: 0x1716151413121110, Hi: 0x1f1e1d1c1b1a1918}
	for _, c := range []struct {
		l      [16]byte
		lo, hi uint64
	}{
		{[16]byte{0, 15, 16, 31, 0, 15, 16, 31, 0, 15, 16, 31, 0, 15, 16, 31}, 0x1f100f001f100f00, 0x1f100f001f100f00},
		{[16]byte{31, 30, 29, 28, 27, 26, 25, 24, 23, 22, 21, 20, 19, 18, 17, 16}, 0x18191a1b1c1d1e1f, 0x1011121314151617},
		{[16]byte{0, 16, 1, 17, 2, 18, 3, 19, 4, 20, 5, 21, 6, 22, 7, 23}, 0x1303120211011000, 0x1707160615051404},
		{[16]byte{}, 0, 0},
	} {
		u, e := lanes.Shuffle(v, b, c.l)
		holdVec(t, fmt.Sprintf("Shuffle(%x)", c.l), u, e, api.Vec{Lo: c.lo, Hi: c.hi})
	}
}

// P6.2: every number that may be at every place, and any lists of them.
func TestShuffleByTheWords(t *testing.T) {
	c := chance(2)
	hold := func(l [16]byte) {
		t.Helper()
		a, b := c.vec(), c.vec()
		u, e := lanes.Shuffle(a, b, l)
		holdVec(t, fmt.Sprintf("Shuffle(%x, %x, %x)", a, b, l), u, e, wantShuffle(a, b, l))
	}
	for i := range 16 {
		for n := range 32 {
			var l [16]byte
			l[i] = byte(n)
			hold(l)
		}
	}
	for range 500 {
		var l [16]byte
		for i := range l {
			l[i] = byte(c.next() % 32)
		}
		hold(l)
	}
}

// P6.2: a number above 31, wherever it stands.
func TestShuffleNoNumbers(t *testing.T) {
	for i := range 16 {
		for n := 32; n <= 255; n++ {
			for _, fill := range []byte{0, 15, 31, 255} {
				var l [16]byte
				for k := range l {
					l[k] = fill
				}
				l[i] = byte(n)
				u, e := lanes.Shuffle(ones, ones, l)
				refused(t, fmt.Sprintf("Shuffle(%x)", l), u, e)
			}
		}
	}
}

// P6.2: every number at every place: up to 15 it is a byte of a, above that it is 0.
func TestSwizzle(t *testing.T) {
	a := api.Vec{Lo: 0x8877665544332211, Hi: 0xffeeddccbbaa9980}
	for i := range 16 {
		for n := range 256 {
			b := row{}.with(8, i, uint64(n)).vec()
			want := row{}
			for k := range 16 {
				want = want.with(8, k, 0x11)
			}
			want = want.with(8, i, 0)
			if n <= 15 {
				want = want.with(8, i, rowOf(a).lane(8, n))
			}
			holdVec(t, fmt.Sprintf("Swizzle(%x, %x)", a, b), lanes.Swizzle(a, b), api.OK, want.vec())
		}
	}
	by := api.Vec{Lo: 0xff100f00_ff100f00, Hi: 0x80_7f_20_1f_0e_08_07_01}
	want := api.Vec{Lo: 0x0000ff11_0000ff11, Hi: 0x00_00_00_00_ee_80_88_22}
	holdVec(t, "Swizzle by hand", lanes.Swizzle(a, by), api.OK, want)
}

// table says of each operator what it makes of a bit of a, of b and of c: at 4 a + 2 b + c.
var table = map[api.BitOp][8]bool{
	api.BNot:    {true, true, true, true, false, false, false, false},
	api.BAnd:    {false, false, false, false, false, false, true, true},
	api.BAndNot: {false, false, false, false, true, true, false, false},
	api.BOr:     {false, false, true, true, true, true, true, true},
	api.BXor:    {false, false, true, true, true, true, false, false},
	api.BSelect: {false, false, true, false, false, true, true, true},
}

func wantBits(op api.BitOp, a, b, c api.Vec) api.Vec {
	x, y, z := rowOf(a), rowOf(b), rowOf(c)
	var r row
	for i := range r {
		at := 0
		for _, bit := range []bool{x[i], y[i], z[i]} {
			at *= 2
			if bit {
				at++
			}
		}
		r[i] = table[op][at]
	}
	return r.vec()
}

// P6.3: each operator at each mix of the three bits, at each place.
func TestBitsMixes(t *testing.T) {
	for op := range table {
		for mix := range 8 {
			for i := range 128 {
				var x, y, z row
				x[i], y[i], z[i] = mix&4 != 0, mix&2 != 0, mix&1 != 0
				a, b, c := x.vec(), y.vec(), z.vec()
				u, e := lanes.Bits(op, a, b, c)
				holdVec(t, fmt.Sprintf("Bits(%d, %x, %x, %x)", op, a, b, c), u, e, wantBits(op, a, b, c))
			}
		}
	}
}

// P6.3: by hand; in a word of eight bits all mixes stand side by side.
func TestBitsByHand(t *testing.T) {
	a, b, c := api.Vec{Lo: 0xf0}, api.Vec{Lo: 0xcc}, api.Vec{Lo: 0xaa}
	for op, want := range map[api.BitOp]api.Vec{
		api.BNot: {Lo: ^uint64(0xf0), Hi: math.MaxUint64}, api.BAnd: {Lo: 0xc0}, api.BAndNot: {Lo: 0x30},
		api.BOr: {Lo: 0xfc}, api.BXor: {Lo: 0x3c}, api.BSelect: {Lo: 0xe4},
	} {
		u, e := lanes.Bits(op, a, b, c)
		holdVec(t, fmt.Sprintf("Bits(%d)", op), u, e, want)
		// The same in the other word.
		turn := func(u api.Vec) api.Vec { return api.Vec{Lo: u.Hi, Hi: u.Lo} }
		u, e = lanes.Bits(op, turn(a), turn(b), turn(c))
		holdVec(t, fmt.Sprintf("Bits(%d)", op), u, e, turn(want))
	}
}

// P6.3: against the table, of any vectors; BNot takes a alone, and none but BSelect takes c.
func TestBitsByTheTable(t *testing.T) {
	l := vectors()
	r := chance(3)
	for i, a := range l {
		b, c := l[(i+7)%len(l)], r.vec()
		for op := range table {
			want := wantBits(op, a, b, c)
			u, e := lanes.Bits(op, a, b, c)
			holdVec(t, fmt.Sprintf("Bits(%d, %x, %x, %x)", op, a, b, c), u, e, want)
			if op == api.BSelect {
				continue
			}
			for _, other := range []api.Vec{{}, ones, r.vec()} {
				u, e = lanes.Bits(op, a, b, other)
				holdVec(t, fmt.Sprintf("Bits(%d, %x, %x, %x)", op, a, b, other), u, e, want)
				if op == api.BNot {
					u, e = lanes.Bits(op, a, other, c)
					holdVec(t, fmt.Sprintf("Bits(BNot, %x, %x, %x)", a, other, c), u, e, want)
				}
			}
		}
	}
}

// P6.3: operators that are none: all other numbers.
func TestBitsNoOperators(t *testing.T) {
	for n := range 256 {
		op := api.BitOp(n)
		if _, is := table[op]; is {
			continue
		}
		for _, u := range []api.Vec{{}, ones, v} {
			got, e := lanes.Bits(op, u, u, u)
			refused(t, fmt.Sprintf("Bits(%d)", n), got, e)
		}
	}
	if len(table) != 6 || api.BNot != 1 || api.BSelect != 6 {
		t.Error("the table has not all operators")
	}
}

// P6.3: noughts, and a single bit in either word.
func TestAny(t *testing.T) {
	if lanes.Any(api.Vec{}) {
		t.Error("Any of noughts")
	}
	for i := range 64 {
		b := uint64(1) << i
		for _, u := range []api.Vec{{Lo: b}, {Hi: b}, {Lo: b, Hi: b}} {
			if !lanes.Any(u) {
				t.Errorf("Any(%x) is false", u)
			}
		}
	}
	for _, u := range vectors() {
		if want := rowOf(u) != (row{}); lanes.Any(u) != want {
			t.Errorf("Any(%x) is not %v", u, want)
		}
	}
}

// P6.4: Of of All, and All of Of, is the same.
func TestOfAndAll(t *testing.T) {
	for _, w := range allWidths {
		for _, u := range vectors() {
			l, e := lanes.All(u, w)
			got, f := lanes.Of(w, l)
			if got != u || e != api.OK || f != api.OK {
				t.Errorf("Of(%d, All(%x)) = %x, %v, %v", w, u, got, e, f)
			}
		}
		pool := numbers(w)
		c := chance(4)
		for range 200 {
			l := make([]uint64, 128/w)
			for i := range l {
				l[i] = pool[c.next()%uint64(len(pool))]
			}
			u, e := lanes.Of(w, l)
			got, f := lanes.All(u, w)
			if !slices.Equal(got, l) || e != api.OK || f != api.OK {
				t.Errorf("All(Of(%d, %x)) = %x, %v, %v", w, l, got, e, f)
			}
		}
	}
}

// P6.4: what is set is got, and no other lane has changed; and the vector that was handed in has not, either.
func TestSetIsGot(t *testing.T) {
	c := chance(5)
	for _, w := range allWidths {
		for i := range 128 / w {
			for _, n := range numbers(w) {
				u := c.vec()
				was := u
				s, e := lanes.Set(u, w, i, n)
				if got, f := lanes.Get(s, w, i); got != n || e != api.OK || f != api.OK {
					t.Errorf("Get(Set(%x, %d, %d, %x)) = %x, %v, %v", u, w, i, n, got, e, f)
				}
				for k := range 128 / w {
					before, _ := lanes.Get(u, w, k)
					if after, _ := lanes.Get(s, w, k); k != i && after != before {
						t.Errorf("Set(%x, %d, %d, %x) changes lane %d to %x", u, w, i, n, k, after)
					}
				}
				if u != was {
					t.Errorf("Set makes %x of %x", u, was)
				}
			}
		}
	}
}

// P6.4: OfBytes of Bytes is the vector, and the other way round.
func TestOfBytesOfBytes(t *testing.T) {
	for _, u := range vectors() {
		holdVec(t, fmt.Sprintf("OfBytes(Bytes(%x))", u), lanes.OfBytes(lanes.Bytes(u)), api.OK, u)
	}
	c := chance(7)
	for range 500 {
		var b [16]byte
		for i := range b {
			b[i] = byte(c.next())
		}
		if got := lanes.Bytes(lanes.OfBytes(b)); got != b {
			t.Errorf("Bytes(OfBytes(%x)) = %x", b, got)
		}
	}
}

// P6.4: Shuffle by 0 to 15 is a, by 16 to 31 b.
func TestShuffleOfOne(t *testing.T) {
	var first, second [16]byte
	for i := range 16 {
		first[i], second[i] = byte(i), byte(16+i)
	}
	l := vectors()
	for i, a := range l {
		b := l[(i+11)%len(l)]
		u, e := lanes.Shuffle(a, b, first)
		holdVec(t, "Shuffle by 0 to 15", u, e, a)
		u, e = lanes.Shuffle(a, b, second)
		holdVec(t, "Shuffle by 16 to 31", u, e, b)
	}
}

// P6.4: Swizzle is Shuffle of a and noughts by what is not above 15; what is above takes a nought.
func TestSwizzleIsShuffle(t *testing.T) {
	c := chance(8)
	for i := range 1000 {
		a, b := c.vec(), c.vec()
		if i%2 == 0 {
			// Half of them have numbers from 0 to 31, so that most are near the border.
			b, _ = lanes.Bits(api.BAnd, b, api.Vec{Lo: 0x1f1f1f1f1f1f1f1f, Hi: 0x1f1f1f1f1f1f1f1f}, api.Vec{})
		}
		l := lanes.Bytes(b)
		for k, n := range l {
			l[k] = min(n, 16)
		}
		want, e := lanes.Shuffle(a, api.Vec{}, l)
		if got := lanes.Swizzle(a, b); got != want || e != api.OK {
			t.Errorf("Swizzle(%x, %x) = %x; Shuffle = %x, %v", a, b, got, want, e)
		}
	}
}

// P6.4: BSelect is BOr of BAnd of a and c, and BAndNot of b and c.
func TestSelectIsOfOthers(t *testing.T) {
	r := chance(9)
	for range 500 {
		a, b, c := r.vec(), r.vec(), r.vec()
		x, e := lanes.Bits(api.BAnd, a, c, r.vec())
		y, f := lanes.Bits(api.BAndNot, b, c, r.vec())
		want, g := lanes.Bits(api.BOr, x, y, r.vec())
		if e != api.OK || f != api.OK || g != api.OK {
			t.Fatalf("Bits: %v, %v, %v", e, f, g)
		}
		u, e := lanes.Bits(api.BSelect, a, b, c)
		holdVec(t, fmt.Sprintf("Bits(BSelect, %x, %x, %x)", a, b, c), u, e, want)
	}
}
