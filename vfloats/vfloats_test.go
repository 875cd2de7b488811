package vfloats_test

import (
	"fmt"
	"math"
	"math/bits"
	"slices"
	"testing"

	"jacquard/api"
	"jacquard/convs"
	"jacquard/floats"
	"jacquard/vfloats"
)

var allWidths = []int{32, 64}

// The operators of each kind, as the document lists them.
var (
	twoOps  = []api.FltOp{api.FAdd, api.FSub, api.FMul, api.FDiv, api.FMin, api.FMax, api.FCopysign, api.FPmin, api.FPmax}
	oneOps  = []api.FltOp{api.FAbs, api.FNeg, api.FSqrt, api.FCeil, api.FFloor, api.FTrunc, api.FNearest}
	thanOps = []api.FltOp{api.FEq, api.FNe, api.FLt, api.FGt, api.FLe, api.FGe}
)

// ones are all bits of a vector.
var ones = api.Vec{Lo: math.MaxUint64, Hi: math.MaxUint64}

// sign is the float of width w whose sign alone is 1: -0.
func sign(w int) uint64 {
	return 1 << (w - 1)
}

// all is the greatest row of bits of width w.
func all(w int) uint64 {
	return math.MaxUint64 >> (64 - w)
}

// endless is what is beyond all numbers.
func endless(w int) uint64 {
	if w == 32 {
		return 0x7f800000
	}
	return 0x7ff0000000000000
}

// oneNaN is the document's.
func oneNaN(w int) uint64 {
	if w == 32 {
		return 0x7fc00000
	}
	return 0x7ff8000000000000
}

func isNone(w int, a uint64) bool {
	return a&^sign(w) > endless(w)
}

// of is x as a float of width w.
func of(w int, x float64) uint64 {
	if w == 32 {
		return uint64(math.Float32bits(float32(x)))
	}
	return math.Float64bits(x)
}

// lanesOf are a vector's lanes of 32 or 64 bits.
func lanesOf(w int, v api.Vec) []uint64 {
	if w == 64 {
		return []uint64{v.Lo, v.Hi}
	}
	return []uint64{v.Lo % (1 << 32), v.Lo / (1 << 32), v.Hi % (1 << 32), v.Hi / (1 << 32)}
}

// vecOf is the vector of lanes of 32 or 64 bits: four, or two.
func vecOf(w int, l ...uint64) api.Vec {
	if w == 64 && len(l) == 2 {
		return api.Vec{Lo: l[0], Hi: l[1]}
	}
	if w != 32 || len(l) != 4 {
		panic(fmt.Sprint(len(l), " lanes of width ", w))
	}
	return api.Vec{Lo: l[0] + l[1]<<32, Hi: l[2] + l[3]<<32}
}

// splat is the vector all of whose lanes are n.
func splat(w int, n uint64) api.Vec {
	return vecOf(w, slices.Repeat([]uint64{n}, 128/w)...)
}

// alone is the vector whose lanes are all rest, but n at the place i.
func alone(w, i int, n, rest uint64) api.Vec {
	l := slices.Repeat([]uint64{rest}, 128/w)
	l[i] = n
	return vecOf(w, l...)
}

// chance are numbers without an order, the same ones in each run.
type chance uint64

func (c *chance) next() uint64 {
	*c = *c*6364136223846793005 + 1442695040888963407
	return bits.RotateLeft64(uint64(*c), 29) * 0x9e3779b97f4a7c15
}

func (c *chance) vec() api.Vec {
	return api.Vec{Lo: c.next(), Hi: c.next()}
}

// nones are floats of width w that are no number, with both signs and unlike bits.
func nones(w int) []uint64 {
	n := oneNaN(w)
	return []uint64{n, n | sign(w), endless(w) + 1, sign(w) | endless(w) + 1, n + 5, all(w), sign(w) - 1, sign(w) | n + 0x1234}
}

// pool are floats of width w, all unlike: the edges that the document names, and others.
func pool(w int) []uint64 {
	s, inf := sign(w), endless(w)
	l := []uint64{0, s, of(w, 1), 1, s | 1, inf, inf - 1, s | inf, s | (inf - 1), of(w, 1) + 1}
	for _, x := range []float64{-1, 0.5, -0.5, 1.5, 2.5, -2.5, 3, -7.25, 16777216, -2147483648, 2147483648, 4294967296, 1e30, -1e-30} {
		l = append(l, of(w, x))
	}
	return append(l, nones(w)...)
}

// turned is the vector whose lanes are the floats of l from the place at on, going round.
func turned(w int, l []uint64, at int) api.Vec {
	var out []uint64
	for i := range 128 / w {
		out = append(out, l[(i+at)%len(l)])
	}
	return vecOf(w, out...)
}

// vectors have each float of the pool in each lane, and beside it others.
func vectors(w int) []api.Vec {
	l := []api.Vec{{}, ones}
	p := pool(w)
	for at := range p {
		l = append(l, turned(w, p, at))
	}
	c := chance(w)
	for range 60 {
		l = append(l, c.vec())
	}
	return l
}

// pairs calls f with vectors that have each two floats of the pool in each lane, and with others.
func pairs(w int, f func(a, b api.Vec)) {
	p := pool(w)
	for i := range p {
		for k := range p {
			f(turned(w, p, i), turned(w, p, k))
		}
	}
	c := chance(100 + w)
	for range 60 {
		f(c.vec(), c.vec())
	}
}

func holdVec(t *testing.T, what string, got api.Vec, e api.Errno, want api.Vec) {
	t.Helper()
	if got != want || e != api.OK {
		t.Errorf("%s = %016x %016x, %v; want %016x %016x", what, got.Lo, got.Hi, e, want.Lo, want.Hi)
	}
}

// refused holds that a vector is its zero value beside ErrArg.
func refused(t *testing.T, what string, got api.Vec, e api.Errno) {
	t.Helper()
	if got != (api.Vec{}) || e != api.ErrArg {
		t.Errorf("%s = %016x %016x, %v; want ErrArg alone", what, got.Lo, got.Hi, e)
	}
}

// lanewise is the vector of what f says of each lane of a and the one of the same number of b.
func lanewise(w int, a, b api.Vec, f func(x, y uint64) (uint64, api.Errno)) api.Vec {
	l, m := lanesOf(w, a), lanesOf(w, b)
	for i := range l {
		n, e := f(l[i], m[i])
		if e != api.OK {
			panic(e)
		}
		l[i] = n
	}
	return vecOf(w, l...)
}

// The pools must be what the tests below take them for.
func TestPools(t *testing.T) {
	for _, w := range allWidths {
		p := pool(w)
		slices.Sort(p)
		if n := len(slices.Compact(slices.Clone(p))); n != len(p) || p[n-1] != all(w) {
			t.Errorf("width %d: %d floats of %d", w, n, len(p))
		}
		for _, v := range vectors(w) {
			if u := vecOf(w, lanesOf(w, v)...); u != v {
				t.Errorf("width %d: %x is %x", w, v, u)
			}
		}
		for _, n := range nones(w) {
			if is, e := floats.None(w, n); !is || e != api.OK || !isNone(w, n) {
				t.Errorf("width %d: %x is a number", w, n)
			}
		}
	}
}

// P8.1: the document's examples, and others by hand, each lane unlike the others.
func TestTwoByHand(t *testing.T) {
	two := func(op api.FltOp, w int, a, b, want api.Vec) {
		t.Helper()
		v, e := vfloats.Two(op, w, a, b)
		holdVec(t, fmt.Sprintf("Two(%d, %d)", op, w), v, e, want)
	}
	row := func(w int, l ...float64) api.Vec {
		var out []uint64
		for _, x := range l {
			out = append(out, of(w, x))
		}
		return vecOf(w, out...)
	}
	two(api.FAdd, 32, splat(32, 0x3f800000), splat(32, 0x3f800000), splat(32, 0x40000000))
	two(api.FAdd, 32, row(32, 1, 2, 3, 4), row(32, 10, 20, 30, 40), row(32, 11, 22, 33, 44))
	two(api.FAdd, 64, row(64, 1, 2), row(64, 10, 20), row(64, 11, 22))
	two(api.FSub, 32, row(32, 1, 2, 3, 4), row(32, 10, 20, 30, 40), row(32, -9, -18, -27, -36))
	two(api.FSub, 64, row(64, 1, 2), row(64, 10, 20), row(64, -9, -18))
	two(api.FMul, 32, row(32, 1, 2, 3, 4), row(32, 5, 6, 7, 8), row(32, 5, 12, 21, 32))
	two(api.FMul, 64, row(64, 3, 4), row(64, 7, -8), row(64, 21, -32))
	two(api.FDiv, 32, row(32, 1, 6, 8, 4), row(32, 2, 4, -1, 8), row(32, 0.5, 1.5, -8, 0.5))
	two(api.FDiv, 64, row(64, 1, 6), row(64, 2, 4), row(64, 0.5, 1.5))
	two(api.FDiv, 32, row(32, 1, 0, -1, 0), row(32, 0, 0, 0, 1), vecOf(32, 0x7f800000, 0x7fc00000, 0xff800000, 0))
	two(api.FDiv, 64, row(64, 0, -1), row(64, 0, 0), vecOf(64, 0x7ff8000000000000, 0xfff0000000000000))
	two(api.FAdd, 32, vecOf(32, 0x7f7fffff, 1, 0x80000000, 0x7f800000), vecOf(32, 0x7f7fffff, 1, 0x80000000, 0xff800000),
		vecOf(32, 0x7f800000, 2, 0x80000000, 0x7fc00000))
	two(api.FMin, 32, vecOf(32, 0x80000000, 0, 0x7f800001, 0x40000000), vecOf(32, 0, 0x80000000, 0, 0xff800000),
		vecOf(32, 0x80000000, 0x80000000, 0x7fc00000, 0xff800000))
	two(api.FMax, 32, vecOf(32, 0x80000000, 0, 0, 0x40000000), vecOf(32, 0, 0x80000000, 0xffc00123, 0xff800000),
		vecOf(32, 0, 0, 0x7fc00000, 0x40000000))
	two(api.FMax, 64, vecOf(64, 0x8000000000000000, 5), vecOf(64, 0, 0xfff8000000000001), vecOf(64, 0, 0x7ff8000000000000))
	two(api.FCopysign, 32, vecOf(32, 0x3f800000, 0x7f800001, 0x80000000, 0), vecOf(32, 0x80000000, 0xffffffff, 0, 0xff800000),
		vecOf(32, 0xbf800000, 0xff800001, 0, 0x80000000))
	two(api.FPmin, 64, splat(64, 0x7ff0000000000001), splat(64, 0), splat(64, 0x7ff0000000000001))
	two(api.FPmin, 32, vecOf(32, 0, 0x80000000, 0x3f800000, 0xffc00001), vecOf(32, 0x80000000, 0, 0xbf800000, 0x3f800000),
		vecOf(32, 0, 0x80000000, 0xbf800000, 0xffc00001))
	two(api.FPmax, 32, vecOf(32, 0, 0x80000000, 0x3f800000, 0xffc00001), vecOf(32, 0x80000000, 0, 0x40000000, 0x3f800000),
		vecOf(32, 0, 0x80000000, 0x40000000, 0xffc00001))
}

// P8.1: operators of one by hand, each lane unlike the others.
func TestOneByHand(t *testing.T) {
	one := func(op api.FltOp, w int, a, want api.Vec) {
		t.Helper()
		v, e := vfloats.One(op, w, a)
		holdVec(t, fmt.Sprintf("One(%d, %d)", op, w), v, e, want)
	}
	one(api.FAbs, 32, vecOf(32, 0x80000000, 0xff800001, 0xbf800000, 0x40000000), vecOf(32, 0, 0x7f800001, 0x3f800000, 0x40000000))
	one(api.FNeg, 32, vecOf(32, 0x80000000, 0xff800001, 0xbf800000, 0x40000000), vecOf(32, 0, 0x7f800001, 0x3f800000, 0xc0000000))
	one(api.FAbs, 64, vecOf(64, 0xfff0000000000000, 0x8000000000000000), vecOf(64, 0x7ff0000000000000, 0))
	one(api.FNeg, 64, vecOf(64, 0, 0x7ff0000000000001), vecOf(64, 0x8000000000000000, 0xfff0000000000001))
	one(api.FSqrt, 32, vecOf(32, 0x40800000, 0x80000000, 0xbf800000, 0x7f800000), vecOf(32, 0x40000000, 0x80000000, 0x7fc00000, 0x7f800000))
	one(api.FSqrt, 64, vecOf(64, 0x4022000000000000, 0xfff0000000000000), vecOf(64, 0x4008000000000000, 0x7ff8000000000000))
	// Of 2.5, -0.5, -1.5 and what is no number.
	l := vecOf(32, 0x40200000, 0xbf000000, 0xbfc00000, 0xff800001)
	one(api.FCeil, 32, l, vecOf(32, 0x40400000, 0x80000000, 0xbf800000, 0x7fc00000))
	one(api.FFloor, 32, l, vecOf(32, 0x40000000, 0xbf800000, 0xc0000000, 0x7fc00000))
	one(api.FTrunc, 32, l, vecOf(32, 0x40000000, 0x80000000, 0xbf800000, 0x7fc00000))
	one(api.FNearest, 32, l, vecOf(32, 0x40000000, 0x80000000, 0xc0000000, 0x7fc00000))
	m := vecOf(64, of(64, 2.5), of(64, -3.5))
	one(api.FCeil, 64, m, vecOf(64, of(64, 3), of(64, -3)))
	one(api.FFloor, 64, m, vecOf(64, of(64, 2), of(64, -4)))
	one(api.FTrunc, 64, m, vecOf(64, of(64, 2), of(64, -3)))
	one(api.FNearest, 64, m, vecOf(64, of(64, 2), of(64, -4)))
}

// P8.1: each operator of two at each width, each two of the pool in each lane.
func TestTwo(t *testing.T) {
	for _, w := range allWidths {
		for _, op := range twoOps {
			pairs(w, func(a, b api.Vec) {
				v, e := vfloats.Two(op, w, a, b)
				holdVec(t, fmt.Sprintf("Two(%d, %d, %x, %x)", op, w, a, b), v, e, lanewise(w, a, b, func(x, y uint64) (uint64, api.Errno) {
					return floats.Two(op, w, x, y)
				}))
			})
		}
	}
}

// P8.1: each operator of one at each width, each float of the pool in each lane.
func TestOne(t *testing.T) {
	for _, w := range allWidths {
		for _, op := range oneOps {
			for _, a := range vectors(w) {
				v, e := vfloats.One(op, w, a)
				holdVec(t, fmt.Sprintf("One(%d, %d, %x)", op, w, a), v, e, lanewise(w, a, a, func(x, _ uint64) (uint64, api.Errno) {
					return floats.One(op, w, x)
				}))
			}
		}
	}
}

// P8.1: each comparison at each width, each two of the pool in each lane.
func TestThan(t *testing.T) {
	for _, w := range allWidths {
		for _, op := range thanOps {
			pairs(w, func(a, b api.Vec) {
				v, e := vfloats.Than(op, w, a, b)
				holdVec(t, fmt.Sprintf("Than(%d, %d, %x, %x)", op, w, a, b), v, e, lanewise(w, a, b, func(x, y uint64) (uint64, api.Errno) {
					is, e := floats.Than(op, w, x, y)
					if is {
						return all(w), e
					}
					return 0, e
				}))
			})
		}
	}
}

// P8.1: comparisons by hand: what holds in one lane alone, and what does not.
func TestThanByHand(t *testing.T) {
	v, e := vfloats.Than(api.FLt, 64, splat(64, 0), splat(64, 1))
	holdVec(t, "Than(FLt, 64)", v, e, ones)
	for _, w := range allWidths {
		one, two, inf := of(w, 1), of(w, 2), endless(w)
		for i := range 128 / w {
			yes, no := alone(w, i, all(w), 0), alone(w, i, 0, all(w))
			for _, c := range []struct {
				op         api.FltOp
				a, b, rest uint64
				want       api.Vec
			}{
				{api.FEq, one, one, 0, ones}, {api.FEq, one, two, 0, no}, {api.FEq, sign(w), 0, 0, ones},
				{api.FNe, one, one, 0, api.Vec{}}, {api.FNe, one, two, 0, yes}, {api.FNe, sign(w), 0, 0, api.Vec{}},
				{api.FLt, one, two, 0, yes}, {api.FLt, two, one, 0, api.Vec{}}, {api.FLt, sign(w), 0, 0, api.Vec{}},
				{api.FGt, two, one, 0, yes}, {api.FGt, one, two, 0, api.Vec{}}, {api.FGt, 0, sign(w), 0, api.Vec{}},
				{api.FLe, two, one, 0, no}, {api.FLe, one, two, 0, ones}, {api.FLe, 0, sign(w), 0, ones},
				{api.FGe, one, two, 0, no}, {api.FGe, two, one, 0, ones}, {api.FGe, sign(w), 0, 0, ones},
				{api.FLt, inf - 1, inf, one, yes}, {api.FGt, inf, inf - 1, one, yes}, {api.FEq, inf, inf, one, ones},
				{api.FLt, sign(w) | inf, sign(w) | inf - 1, one, yes}, {api.FLt, sign(w) | 1, 0, one, yes},
			} {
				v, e := vfloats.Than(c.op, w, alone(w, i, c.a, c.rest), alone(w, i, c.b, c.rest))
				holdVec(t, fmt.Sprintf("Than(%d, %d) of %x and %x in lane %d", c.op, w, c.a, c.b, i), v, e, c.want)
			}
		}
	}
}

// P8.1: with what is no number in one lane alone, of one vector or of both, all are false there, but FNe.
func TestThanOfNoNumber(t *testing.T) {
	for _, w := range allWidths {
		for i := range 128 / w {
			for _, none := range nones(w) {
				a, b := alone(w, i, none, of(w, 3)), splat(w, of(w, 3))
				for _, op := range thanOps {
					want := api.Vec{}
					switch op {
					case api.FNe:
						want = alone(w, i, all(w), 0)
					case api.FEq, api.FLe, api.FGe:
						want = alone(w, i, 0, all(w))
					}
					for _, c := range [][2]api.Vec{{a, b}, {b, a}, {a, a}} {
						v, e := vfloats.Than(op, w, c[0], c[1])
						holdVec(t, fmt.Sprintf("Than(%d, %d, %x, %x)", op, w, c[0], c[1]), v, e, want)
					}
				}
			}
		}
	}
}

// P8.1: what is no number in one lane alone makes the one NaN of the width there, but of the operators that move bits.
func TestNoNumberInOneLane(t *testing.T) {
	for _, w := range allWidths {
		for i := range 128 / w {
			for _, none := range nones(w) {
				a, b := alone(w, i, none, 0), api.Vec{}
				for _, op := range []api.FltOp{api.FAdd, api.FSub, api.FMul, api.FMin, api.FMax} {
					for _, c := range [][2]api.Vec{{a, b}, {b, a}, {a, a}} {
						v, e := vfloats.Two(op, w, c[0], c[1])
						holdVec(t, fmt.Sprintf("Two(%d, %d, %x, %x)", op, w, c[0], c[1]), v, e, alone(w, i, oneNaN(w), 0))
					}
				}
				for _, op := range []api.FltOp{api.FSqrt, api.FCeil, api.FFloor, api.FTrunc, api.FNearest} {
					v, e := vfloats.One(op, w, a)
					holdVec(t, fmt.Sprintf("One(%d, %d, %x)", op, w, a), v, e, alone(w, i, oneNaN(w), 0))
				}
				for _, op := range []api.FltOp{api.FPmin, api.FPmax} {
					v, e := vfloats.Two(op, w, a, b)
					holdVec(t, fmt.Sprintf("Two(%d, %d, %x, %x)", op, w, a, b), v, e, a)
					v, e = vfloats.Two(op, w, b, a)
					holdVec(t, fmt.Sprintf("Two(%d, %d, %x, %x)", op, w, b, a), v, e, b)
				}
				v, e := vfloats.Two(api.FCopysign, w, a, splat(w, sign(w)))
				holdVec(t, fmt.Sprintf("Two(FCopysign, %d, %x)", w, a), v, e, alone(w, i, none|sign(w), sign(w)))
				v, e = vfloats.One(api.FNeg, w, a)
				holdVec(t, fmt.Sprintf("One(FNeg, %d, %x)", w, a), v, e, alone(w, i, none^sign(w), sign(w)))
				v, e = vfloats.One(api.FAbs, w, a)
				holdVec(t, fmt.Sprintf("One(FAbs, %d, %x)", w, a), v, e, alone(w, i, none&^sign(w), 0))
			}
		}
	}
}

// some are vectors for calls that are refused: nothing of them may be left.
func some() []api.Vec {
	c := chance(1)
	return []api.Vec{{}, ones, splat(32, 0x3f800000), splat(64, 0x3ff0000000000000), c.vec()}
}

// P8.1: every operator that is none, or one of another kind, is refused at each width; 0 and 255 are among them.
func TestNoOperators(t *testing.T) {
	for _, w := range allWidths {
		for n := range 256 {
			op := api.FltOp(n)
			for _, a := range some() {
				for _, b := range some() {
					what := fmt.Sprintf("(%d, %d, %x, %x)", op, w, a, b)
					if !slices.Contains(twoOps, op) {
						v, e := vfloats.Two(op, w, a, b)
						refused(t, "Two"+what, v, e)
					}
					if !slices.Contains(thanOps, op) {
						v, e := vfloats.Than(op, w, a, b)
						refused(t, "Than"+what, v, e)
					}
					if !slices.Contains(oneOps, op) {
						v, e := vfloats.One(op, w, a)
						refused(t, "One"+what, v, e)
					}
				}
			}
		}
	}
}

// noWidths are all near those that are, and some far off, of which the lowest bits are a width.
func noWidths() []int {
	l := []int{math.MinInt, math.MaxInt, math.MaxInt - 31, math.MaxInt - 63, 1 << 16, 256, 512}
	for _, w := range allWidths {
		l = append(l, math.MinInt+w, math.MaxInt/2+1+w, 256+w, 1<<16+w)
	}
	for w := -140; w <= 140; w++ {
		if w != 32 && w != 64 {
			l = append(l, w)
		}
	}
	return l
}

// P8.1, P8.2: widths that are none, with every operator, with signs and without.
func TestNoWidths(t *testing.T) {
	for _, w := range noWidths() {
		for _, a := range some() {
			for n := range 256 {
				op := api.FltOp(n)
				what := fmt.Sprintf("(%d, %d, %x)", op, w, a)
				v, e := vfloats.Two(op, w, a, a)
				refused(t, "Two"+what, v, e)
				v, e = vfloats.One(op, w, a)
				refused(t, "One"+what, v, e)
				v, e = vfloats.Than(op, w, a, a)
				refused(t, "Than"+what, v, e)
			}
			for _, signed := range []bool{false, true} {
				what := fmt.Sprintf("(%d, %v, %x)", w, signed, a)
				v, e := vfloats.CutHeld(w, signed, a)
				refused(t, "CutHeld"+what, v, e)
				v, e = vfloats.Float(w, signed, a)
				refused(t, "Float"+what, v, e)
			}
		}
	}
}

// cutCase is what a float is cut to, held.
type cutCase struct {
	signed  bool
	x       float64
	a, want uint64 // a: the bits, where x is 0
}

// cutCases have the bounds, just within and just beyond, of each width.
func cutCases(w int) []cutCase {
	l := []cutCase{
		{true, 0, 0, 0}, {false, 0, 0, 0}, {true, 0, sign(w), 0}, {false, 0, sign(w), 0}, {true, 0, 1, 0}, {false, 0, sign(w) | 1, 0},
		{true, 1.75, 0, 1}, {true, -1.75, 0, 0xffffffff}, {false, 1.75, 0, 1}, {false, -0.75, 0, 0}, {false, -1, 0, 0}, {false, -3e9, 0, 0}, {true, -0.75, 0, 0},
		{true, -2147483648, 0, 0x80000000}, {true, 2147483648, 0, 0x7fffffff}, {false, 2147483648, 0, 0x80000000}, {false, 4294967296, 0, 0xffffffff},
		{true, 4294967296, 0, 0x7fffffff}, {true, -4294967296, 0, 0x80000000},
		{true, 0, endless(w), 0x7fffffff}, {true, 0, sign(w) | endless(w), 0x80000000}, {false, 0, endless(w), 0xffffffff}, {false, 0, sign(w) | endless(w), 0},
		{true, 0, endless(w) - 1, 0x7fffffff}, {true, 0, sign(w) | endless(w) - 1, 0x80000000}, {false, 0, endless(w) - 1, 0xffffffff}, {false, 0, sign(w) | endless(w) - 1, 0},
	}
	for _, n := range nones(w) {
		l = append(l, cutCase{true, 0, n, 0}, cutCase{false, 0, n, 0})
	}
	if w == 32 {
		return append(l, cutCase{true, 2147483520, 0, 2147483520}, cutCase{false, 4294967040, 0, 4294967040}, cutCase{true, -2147483904, 0, 0x80000000})
	}
	return append(l,
		cutCase{true, 2147483647, 0, 0x7fffffff}, cutCase{true, 2147483647.5, 0, 0x7fffffff}, cutCase{true, 2147483646.75, 0, 0x7ffffffe},
		cutCase{true, -2147483648.5, 0, 0x80000000}, cutCase{true, -2147483649, 0, 0x80000000}, cutCase{true, -2147483647.5, 0, 0x80000001},
		cutCase{false, 4294967295, 0, 0xffffffff}, cutCase{false, 4294967295.5, 0, 0xffffffff}, cutCase{false, 4294967294.75, 0, 0xfffffffe})
}

// P8.2: each bound by hand, in each lane alone and in all of them: of 64 bits the lanes 0 and 1, and 0 in the others.
func TestCutHeldByHand(t *testing.T) {
	v, e := vfloats.CutHeld(64, true, splat(64, 0xbff0000000000000))
	holdVec(t, "CutHeld(64, true)", v, e, vecOf(32, 4294967295, 4294967295, 0, 0))
	v, e = vfloats.CutHeld(64, false, vecOf(64, of(64, 5), of(64, 7)))
	holdVec(t, "CutHeld(64, false)", v, e, vecOf(32, 5, 7, 0, 0))
	v, e = vfloats.CutHeld(32, true, vecOf(32, of(32, 5), of(32, -6), of(32, 7.5), of(32, -8.5)))
	holdVec(t, "CutHeld(32, true)", v, e, vecOf(32, 5, 0xfffffffa, 7, 0xfffffff8))
	for _, w := range allWidths {
		for _, c := range cutCases(w) {
			a := c.a
			if c.x != 0 {
				a = of(w, c.x)
			}
			for i := range 128 / w {
				v, e := vfloats.CutHeld(w, c.signed, alone(w, i, a, of(w, 9)))
				l := []uint64{9, 9, 9, 9}
				if w == 64 {
					l = []uint64{9, 9, 0, 0}
				}
				l[i] = c.want
				holdVec(t, fmt.Sprintf("CutHeld(%d, %v) of %x in lane %d", w, c.signed, a, i), v, e, vecOf(32, l...))
			}
		}
	}
}

// P8.2: each float of the pool in each lane.
func TestCutHeld(t *testing.T) {
	for _, w := range allWidths {
		for _, signed := range []bool{false, true} {
			for _, a := range vectors(w) {
				l := make([]uint64, 4)
				for i, x := range lanesOf(w, a) {
					n, e := convs.CutHeld(w, 32, signed, x)
					if e != api.OK {
						t.Fatalf("convs.CutHeld: %v", e)
					}
					l[i] = n
				}
				v, e := vfloats.CutHeld(w, signed, a)
				holdVec(t, fmt.Sprintf("CutHeld(%d, %v, %x)", w, signed, a), v, e, vecOf(32, l...))
			}
		}
	}
}

// P8.2: Float by hand: of 32 bits what is rounded, once; of 64 the lanes 0 and 1 alone, which all fit.
func TestFloatByHand(t *testing.T) {
	v, e := vfloats.Float(64, false, splat(32, 1))
	holdVec(t, "Float(64, false)", v, e, splat(64, 0x3ff0000000000000))
	v, e = vfloats.Float(32, true, vecOf(32, 1, 0xffffffff, 0x7fffffff, 0x80000000))
	holdVec(t, "Float(32, true)", v, e, vecOf(32, 0x3f800000, 0xbf800000, 0x4f000000, 0xcf000000))
	v, e = vfloats.Float(32, false, vecOf(32, 1, 0xffffffff, 0x7fffffff, 0x80000000))
	holdVec(t, "Float(32, false)", v, e, vecOf(32, 0x3f800000, 0x4f800000, 0x4f000000, 0x4f000000))
	// 2^24 + 1 lies in the middle, 2^24 + 3, too; by 2^31 and 2^32 a float is for 128 and 256 numbers.
	v, e = vfloats.Float(32, true, vecOf(32, 16777217, 16777219, 0xfeffffff, 0x7fffffbf))
	holdVec(t, "Float(32, true)", v, e, vecOf(32, 0x4b800000, 0x4b800002, 0xcb800000, 0x4effffff))
	v, e = vfloats.Float(32, false, vecOf(32, 0xffffff80, 0xffffff7f, 0xfffffe80, 0))
	holdVec(t, "Float(32, false)", v, e, vecOf(32, 0x4f800000, 0x4f7fffff, 0x4f7ffffe, 0))
	for _, c := range []struct {
		signed bool
		n      uint64
		want   uint64
	}{
		{true, 0, 0}, {false, 0, 0}, {true, 0xffffffff, 0xbff0000000000000}, {false, 0xffffffff, 0x41efffffffe00000},
		{true, 0x80000000, 0xc1e0000000000000}, {false, 0x80000000, 0x41e0000000000000}, {true, 0x7fffffff, 0x41dfffffffc00000}, {false, 16777217, 0x4170000010000000},
	} {
		// Whatever stands in the lanes 2 and 3.
		for _, rest := range []uint64{0, 1, 0x7fc00000, 0xffffffff} {
			v, e := vfloats.Float(64, c.signed, vecOf(32, c.n, 7, rest, rest))
			holdVec(t, fmt.Sprintf("Float(64, %v) of %x in lane 0", c.signed, c.n), v, e, vecOf(64, c.want, 0x401c000000000000))
			v, e = vfloats.Float(64, c.signed, vecOf(32, 7, c.n, rest, rest))
			holdVec(t, fmt.Sprintf("Float(64, %v) of %x in lane 1", c.signed, c.n), v, e, vecOf(64, 0x401c000000000000, c.want))
		}
	}
}

// P8.2: each of many whole numbers in each lane.
func TestFloat(t *testing.T) {
	for _, w := range allWidths {
		for _, signed := range []bool{false, true} {
			for _, a := range vectors(32) {
				var l []uint64
				for _, x := range lanesOf(32, a)[:128/w] {
					n, e := convs.Float(32, w, signed, x)
					if e != api.OK {
						t.Fatalf("convs.Float: %v", e)
					}
					l = append(l, n)
				}
				v, e := vfloats.Float(w, signed, a)
				holdVec(t, fmt.Sprintf("Float(%d, %v, %x)", w, signed, a), v, e, vecOf(w, l...))
			}
		}
	}
}

// P8.3: Promote by hand: of the lanes 0 and 1 alone, whatever stands in the others.
func TestPromoteByHand(t *testing.T) {
	for _, c := range []struct{ a, want uint64 }{
		{0, 0}, {0x80000000, 0x8000000000000000}, {0x3f800000, 0x3ff0000000000000}, {0xbf800000, 0xbff0000000000000}, {1, 0x36a0000000000000}, {0x80000001, 0xb6a0000000000000},
		{0x7f7fffff, 0x47efffffe0000000}, {0xff7fffff, 0xc7efffffe0000000}, {0x7f800000, 0x7ff0000000000000}, {0xff800000, 0xfff0000000000000},
		{0x7fc00000, 0x7ff8000000000000}, {0xff800001, 0x7ff8000000000000}, {0x7f800001, 0x7ff8000000000000}, {0xffffffff, 0x7ff8000000000000},
	} {
		for _, rest := range []uint64{0, 1, 0x40000000, 0x7fc00000, 0xffffffff} {
			v := vfloats.Promote(vecOf(32, c.a, 0x40000000, rest, rest))
			holdVec(t, fmt.Sprintf("Promote of %x in lane 0", c.a), v, api.OK, vecOf(64, c.want, 0x4000000000000000))
			v = vfloats.Promote(vecOf(32, 0x40000000, c.a, rest, rest))
			holdVec(t, fmt.Sprintf("Promote of %x in lane 1", c.a), v, api.OK, vecOf(64, 0x4000000000000000, c.want))
		}
	}
}

// P8.3: Demote by hand: 0 in the lanes 2 and 3; what is rounded, what is too great or too little, what is no number.
func TestDemoteByHand(t *testing.T) {
	v := vfloats.Demote(splat(64, 0x3ff0000000000000))
	holdVec(t, "Demote", v, api.OK, vecOf(32, 0x3f800000, 0x3f800000, 0, 0))
	for _, c := range []struct{ a, want uint64 }{
		{0, 0}, {0x8000000000000000, 0x80000000}, {0xbff0000000000000, 0xbf800000},
		{0x3ff0000010000000, 0x3f800000}, {0x3ff0000010000001, 0x3f800001}, {0x3ff0000030000000, 0x3f800002}, {0x3ff000000fffffff, 0x3f800000},
		{0x47efffffe0000000, 0x7f7fffff}, {0x47efffffefffffff, 0x7f7fffff}, {0x47effffff0000000, 0x7f800000}, {0xc7effffff0000000, 0xff800000},
		{0x7fefffffffffffff, 0x7f800000}, {0xffefffffffffffff, 0xff800000}, {0x7ff0000000000000, 0x7f800000}, {0xfff0000000000000, 0xff800000},
		{1, 0}, {0x8000000000000001, 0x80000000}, {0x36a0000000000000, 1}, {0x3690000000000000, 0}, {0x3690000000000001, 1}, {0xb690000000000001, 0x80000001},
		{0x7ff8000000000000, 0x7fc00000}, {0x7ff0000000000001, 0x7fc00000}, {0xfff8000000000123, 0x7fc00000}, {math.MaxUint64, 0x7fc00000},
	} {
		v := vfloats.Demote(vecOf(64, c.a, 0x4008000000000000))
		holdVec(t, fmt.Sprintf("Demote of %x in lane 0", c.a), v, api.OK, vecOf(32, c.want, 0x40400000, 0, 0))
		v = vfloats.Demote(vecOf(64, 0x4008000000000000, c.a))
		holdVec(t, fmt.Sprintf("Demote of %x in lane 1", c.a), v, api.OK, vecOf(32, 0x40400000, c.want, 0, 0))
	}
}

// P8.3: each float of the pool in each lane.
func TestPromoteAndDemote(t *testing.T) {
	for _, a := range vectors(32) {
		l := lanesOf(32, a)
		x, _ := convs.Promote(l[0])
		y, _ := convs.Promote(l[1])
		holdVec(t, fmt.Sprintf("Promote(%x)", a), vfloats.Promote(a), api.OK, vecOf(64, x, y))
	}
	for _, a := range vectors(64) {
		x, _ := convs.Demote(a.Lo)
		y, _ := convs.Demote(a.Hi)
		holdVec(t, fmt.Sprintf("Demote(%x)", a), vfloats.Demote(a), api.OK, vecOf(32, x, y, 0, 0))
	}
}

// P8.4: Demote of Promote has the lanes 0 and 1 of the vector, but for other NaNs, and 0 in the others.
func TestDemoteOfPromote(t *testing.T) {
	l := append(vectors(32), vectors(64)...)
	c := chance(7)
	for range 2000 {
		l = append(l, c.vec())
	}
	for _, a := range l {
		want := lanesOf(32, a)
		for i, x := range want {
			switch {
			case i >= 2:
				want[i] = 0
			case isNone(32, x):
				want[i] = 0x7fc00000
			}
		}
		holdVec(t, fmt.Sprintf("Demote of Promote(%x)", a), vfloats.Demote(vfloats.Promote(a)), api.OK, vecOf(32, want...))
	}
}

// call is one of the layer's, of a vector that is both operands; its lanes go from one width to another one.
type call struct {
	what     string
	from, to int
	f        func(a, b api.Vec) (api.Vec, api.Errno)
}

func calls() []call {
	l := []call{
		{"Promote", 32, 64, func(a, _ api.Vec) (api.Vec, api.Errno) { return vfloats.Promote(a), api.OK }},
		{"Demote", 64, 32, func(a, _ api.Vec) (api.Vec, api.Errno) { return vfloats.Demote(a), api.OK }},
	}
	for _, w := range allWidths {
		for _, op := range twoOps {
			l = append(l, call{fmt.Sprintf("Two(%d, %d)", op, w), w, w, func(a, b api.Vec) (api.Vec, api.Errno) { return vfloats.Two(op, w, a, b) }})
		}
		for _, op := range thanOps {
			l = append(l, call{fmt.Sprintf("Than(%d, %d)", op, w), w, w, func(a, b api.Vec) (api.Vec, api.Errno) { return vfloats.Than(op, w, a, b) }})
		}
		for _, op := range oneOps {
			l = append(l, call{fmt.Sprintf("One(%d, %d)", op, w), w, w, func(a, _ api.Vec) (api.Vec, api.Errno) { return vfloats.One(op, w, a) }})
		}
		for _, signed := range []bool{false, true} {
			l = append(l,
				call{fmt.Sprintf("CutHeld(%d, %v)", w, signed), w, 32, func(a, _ api.Vec) (api.Vec, api.Errno) { return vfloats.CutHeld(w, signed, a) }},
				call{fmt.Sprintf("Float(%d, %v)", w, signed), 32, w, func(a, _ api.Vec) (api.Vec, api.Errno) { return vfloats.Float(w, signed, a) }})
		}
	}
	return l
}

// P8.4: a lane hangs on the lanes of the same number alone: it is the same, whatever stands in the others.
func TestLanesAlone(t *testing.T) {
	for _, c := range calls() {
		lots := chance(11)
		for range 40 {
			a, b := lots.vec(), lots.vec()
			whole, e := c.f(a, b)
			if e != api.OK {
				t.Fatalf("%s: %v", c.what, e)
			}
			l, m := lanesOf(c.from, a), lanesOf(c.from, b)
			for i, got := range lanesOf(c.to, whole)[:min(128/c.from, 128/c.to)] {
				for _, rest := range []uint64{0, all(c.from), oneNaN(c.from), of(c.from, 1)} {
					v, e := c.f(alone(c.from, i, l[i], rest), alone(c.from, i, m[i], rest))
					if n := lanesOf(c.to, v)[i]; n != got || e != api.OK {
						t.Errorf("%s: lane %d of %x, %x is %x, %v; alone beside %x it is %x", c.what, i, a, b, got, e, rest, n)
					}
				}
			}
		}
	}
}
