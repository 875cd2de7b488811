package vints_test

import (
	"fmt"
	"math"
	"math/big"
	"math/bits"
	"slices"
	"testing"

	"jacquard/api"
	"jacquard/vints"
)

var allWidths = []int{8, 16, 32, 64}

// The operators that each function has, as the document lists them.
var (
	twoOps = []api.IntOp{api.IAdd, api.ISub, api.IMul, api.IAnd, api.IOr, api.IXor, api.IAddU, api.ISubU, api.IAddS,
		api.ISubS, api.IMinU, api.IMaxU, api.IMinS, api.IMaxS, api.IAvgU, api.IQ15}
	oneOps   = []api.IntOp{api.IAbs, api.INeg, api.IPopcnt, api.INot}
	thanOps  = []api.IntOp{api.IEq, api.INe, api.ILtU, api.ILtS, api.IGtU, api.IGtS, api.ILeU, api.ILeS, api.IGeU, api.IGeS}
	shiftOps = []api.IntOp{api.IShl, api.IShrU, api.IShrS}
)

// ones are all bits of a vector.
var ones = api.Vec{Lo: math.MaxUint64, Hi: math.MaxUint64}

func power(n int) *big.Int {
	return new(big.Int).Lsh(big.NewInt(1), uint(n))
}

func plain(n uint64) *big.Int {
	return new(big.Int).SetUint64(n)
}

// number is a worth's number, as the document has it.
func number(w int, x *big.Int) uint64 {
	return new(big.Int).Mod(x, power(w)).Uint64()
}

// worth is the signed worth.
func worth(w int, n uint64) *big.Int {
	x := plain(n)
	if x.Cmp(power(w-1)) >= 0 {
		x.Sub(x, power(w))
	}
	return x
}

// worthIf is the signed worth, or the number itself.
func worthIf(signed bool, w int, n uint64) *big.Int {
	if signed {
		return worth(w, n)
	}
	return plain(n)
}

func lesser(x, y *big.Int) *big.Int {
	if x.Cmp(y) < 0 {
		return x
	}
	return y
}

func greater(x, y *big.Int) *big.Int {
	if x.Cmp(y) > 0 {
		return x
	}
	return y
}

// held is x held from 0 to 2^w - 1, or as a signed worth of width w.
func held(signed bool, w int, x *big.Int) *big.Int {
	low, high := big.NewInt(0), power(w)
	if signed {
		low, high = new(big.Int).Neg(power(w-1)), power(w-1)
	}
	return lesser(greater(x, low), high.Sub(high, big.NewInt(1)))
}

// top is the greatest number of width w, highest the one whose highest bit alone is 1.
func top(w int) uint64 {
	return highest(w) - 1 + highest(w)
}

func highest(w int) uint64 {
	return 1 << (w - 1)
}

// lanesOf are a vector's lanes, cut by dividing the number that the whole vector is.
func lanesOf(w int, v api.Vec) []uint64 {
	n := plain(v.Hi)
	n.Mul(n, power(64)).Add(n, plain(v.Lo))
	var l []uint64
	for range 128 / w {
		x := new(big.Int)
		n.QuoRem(n, power(w), x)
		l = append(l, x.Uint64())
	}
	return l
}

// vecOf is the vector of lanes.
func vecOf(w int, l []uint64) api.Vec {
	if len(l)*w != 128 {
		panic(fmt.Sprint(len(l), " lanes of width ", w))
	}
	n := new(big.Int)
	for i, x := range l {
		n.Add(n, new(big.Int).Mul(plain(x), power(i*w)))
	}
	high, low := new(big.Int).QuoRem(n, power(64), new(big.Int))
	return api.Vec{Lo: low.Uint64(), Hi: high.Uint64()}
}

// splat is the vector all of whose lanes are n.
func splat(w int, n uint64) api.Vec {
	return vecOf(w, slices.Repeat([]uint64{n}, 128/w))
}

// alone is the vector whose lanes are all rest, but n at the place i.
func alone(w, i int, n, rest uint64) api.Vec {
	l := slices.Repeat([]uint64{rest}, 128/w)
	l[i] = n
	return vecOf(w, l)
}

// chance are numbers without an order, the same ones in each run.
type chance uint64

func (c *chance) next() uint64 {
	*c = *c*6364136223846793005 + 1442695040888963407
	return bits.RotateLeft64(uint64(*c), 29) * 0x9e3779b97f4a7c15
}

func (c *chance) vec() api.Vec {
	return api.Vec{Lo: c.next(), Hi: c.next()}
}

// pool are nineteen numbers of width w, its edges among them, all unlike: more than a vector has lanes.
func pool(w int) []uint64 {
	h, t := highest(w), top(w)
	l := []uint64{0, h, t, 1, h - 1, t - 1, h + 1, 2, t / 3, h - 2, 0x33 << (w - 8), 3, t - 2, 16, h + h/2, h / 2}
	for c := chance(w); len(l) < 19; {
		if n := c.next() % (t/2 + 1); !slices.Contains(l, n) {
			l = append(l, n)
		}
	}
	return l
}

// turned is the vector whose lanes are the numbers of l from the place at on, going round.
func turned(w int, l []uint64, at int) api.Vec {
	var out []uint64
	for i := range 128 / w {
		out = append(out, l[(i+at)%len(l)])
	}
	return vecOf(w, out)
}

// vectors have each number of the pool in each lane, and beside it others.
func vectors(w int) []api.Vec {
	l := []api.Vec{{}, ones, {Lo: math.MaxUint64}, {Hi: math.MaxUint64}}
	p := pool(w)
	for at := range p {
		l = append(l, turned(w, p, at))
	}
	c := chance(100 + w)
	for range 40 {
		l = append(l, c.vec())
	}
	return l
}

// pairs calls f with vectors that have each two numbers of the pool in each lane, and with others.
func pairs(w int, f func(a, b api.Vec)) {
	p := pool(w)
	for i := range p {
		for k := range p {
			f(turned(w, p, i), turned(w, p, k))
		}
	}
	c := chance(200 + w)
	for range 40 {
		f(c.vec(), c.vec())
	}
	for _, v := range vectors(w)[:8] {
		f(v, api.Vec{})
		f(ones, v)
	}
}

// noWidths are all near those that are, and some far off, of which the lowest bits are a width.
func noWidths() []int {
	l := []int{math.MinInt, math.MaxInt, math.MaxInt - 63, 1 << 16, 256, 512}
	for _, w := range allWidths {
		l = append(l, math.MinInt+w, math.MinInt+w/2, math.MaxInt/2+1+w, 256+w, 1<<16+w, -w)
	}
	for w := -140; w <= 140; w++ {
		if !slices.Contains(allWidths, w) {
			l = append(l, w)
		}
	}
	return l
}

func holdVec(t *testing.T, what string, got api.Vec, e api.Errno, want api.Vec) {
	t.Helper()
	if got != want || e != api.OK {
		t.Errorf("%s = %016x %016x, %v; want %016x %016x", what, got.Lo, got.Hi, e, want.Lo, want.Hi)
	}
}

// refused holds that a vector is its zero value beside ErrArg.
func refused(t *testing.T, what string, got api.Vec, e api.Errno) {
	t.Helper()
	if got != (api.Vec{}) || e != api.ErrArg {
		t.Errorf("%s = %016x %016x, %v; want ErrArg alone", what, got.Lo, got.Hi, e)
	}
}

// some are vectors for calls that are refused: nothing of them may be left.
func some() []api.Vec {
	c := chance(1)
	return []api.Vec{{}, ones, splat(8, 1), c.vec()}
}

// wantTwo is what the document's table of operators says of two numbers.
func wantTwo(op api.IntOp, w int, a, b uint64) uint64 {
	x, y, n := plain(a), plain(b), new(big.Int)
	switch op {
	case api.IAddS, api.ISubS, api.IMinS, api.IMaxS, api.IQ15:
		x, y = worth(w, a), worth(w, b)
	}
	switch op {
	case api.IAdd:
		n.Add(x, y)
	case api.ISub:
		n.Sub(x, y)
	case api.IMul:
		n.Mul(x, y)
	case api.IAnd:
		n.And(x, y)
	case api.IOr:
		n.Or(x, y)
	case api.IXor:
		n.Xor(x, y)
	case api.IAddU, api.IAddS:
		n = held(op == api.IAddS, w, n.Add(x, y))
	case api.ISubU, api.ISubS:
		n = held(op == api.ISubS, w, n.Sub(x, y))
	case api.IMinU, api.IMinS:
		n = lesser(x, y)
	case api.IMaxU, api.IMaxS:
		n = greater(x, y)
	case api.IAvgU:
		n.Add(x, y).Add(n, big.NewInt(1)).Rsh(n, 1)
	case api.IQ15:
		n = held(true, w, n.Mul(x, y).Add(n, power(14)).Rsh(n, 15))
	default:
		panic(op)
	}
	return number(w, n)
}

func wantOne(op api.IntOp, w int, a uint64) uint64 {
	switch op {
	case api.IAbs:
		return number(w, new(big.Int).Abs(worth(w, a)))
	case api.INeg:
		return number(w, new(big.Int).Neg(plain(a)))
	case api.INot:
		return top(w) - a
	case api.IPopcnt:
		n := uint64(0)
		for ; a > 0; a /= 2 {
			n += a % 2
		}
		return n
	}
	panic(op)
}

// wantThan is all ones, or 0.
func wantThan(op api.IntOp, w int, a, b uint64) uint64 {
	c := plain(a).Cmp(plain(b))
	switch op {
	case api.ILtS, api.IGtS, api.ILeS, api.IGeS:
		c = worth(w, a).Cmp(worth(w, b))
	}
	is := false
	switch op {
	case api.IEq:
		is = c == 0
	case api.INe:
		is = c != 0
	case api.ILtU, api.ILtS:
		is = c < 0
	case api.IGtU, api.IGtS:
		is = c > 0
	case api.ILeU, api.ILeS:
		is = c <= 0
	case api.IGeU, api.IGeS:
		is = c >= 0
	default:
		panic(op)
	}
	if is {
		return top(w)
	}
	return 0
}

func wantShift(op api.IntOp, w int, a, n uint64) uint64 {
	k := new(big.Int).Mod(plain(n), plain(uint64(w))).Uint64()
	switch op {
	case api.IShl:
		return number(w, new(big.Int).Lsh(plain(a), uint(k)))
	case api.IShrU:
		return number(w, new(big.Int).Rsh(plain(a), uint(k)))
	case api.IShrS:
		return number(w, new(big.Int).Rsh(worth(w, a), uint(k)))
	}
	panic(op)
}

// lanewise is the vector of what f says of each lane of a and the one of the same number of b.
func lanewise(w int, a, b api.Vec, f func(x, y uint64) uint64) api.Vec {
	l, m := lanesOf(w, a), lanesOf(w, b)
	for i := range l {
		l[i] = f(l[i], m[i])
	}
	return vecOf(w, l)
}

// The pools must be what the tests below take them for.
func TestPools(t *testing.T) {
	for _, w := range allWidths {
		p := pool(w)
		slices.Sort(p)
		p = slices.Compact(p)
		if n := len(p); n != 19 || p[n-1] != top(w) {
			t.Errorf("width %d: %d numbers up to %x", w, n, p[n-1])
		}
		for _, v := range vectors(w) {
			if u := vecOf(w, lanesOf(w, v)); u != v {
				t.Errorf("width %d: %x is %x", w, v, u)
			}
		}
	}
	for v, l := range map[api.Vec][]uint64{
		{Lo: 0x00000002_00000001, Hi: 0xfffffffe_00000003}: {1, 2, 3, 0xfffffffe},
		{Lo: 0x80000000_00000000, Hi: 1}:                   {0, 0x80000000, 1, 0},
	} {
		if !slices.Equal(lanesOf(32, v), l) || vecOf(32, l) != v {
			t.Errorf("%x and %x", v, l)
		}
	}
}

// P7.1: the document's examples, and others by hand.
func TestByHand(t *testing.T) {
	two := func(op api.IntOp, w int, a, b, want api.Vec) {
		t.Helper()
		v, e := vints.Two(op, w, a, b)
		holdVec(t, fmt.Sprintf("Two(%d, %d)", op, w), v, e, want)
	}
	two(api.IAdd, 8, splat(8, 255), splat(8, 1), api.Vec{})
	two(api.IMul, 64, splat(64, 3), splat(64, 5), splat(64, 15))
	two(api.IAdd, 64, ones, api.Vec{Lo: 1}, api.Vec{Hi: math.MaxUint64})
	two(api.ISub, 16, api.Vec{}, api.Vec{Lo: 1 << 16, Hi: 1}, api.Vec{Lo: 0xffff0000, Hi: 0xffff})
	two(api.IAddS, 32, api.Vec{Lo: 0x7fffffff_80000000}, api.Vec{Lo: 0x00000001_ffffffff}, api.Vec{Lo: 0x7fffffff_80000000})
	two(api.ISubU, 8, api.Vec{Lo: 0x05_03}, api.Vec{Lo: 0x03_05}, api.Vec{Lo: 0x02_00})
	two(api.IMinU, 8, api.Vec{Lo: 0x80_01}, api.Vec{Lo: 0x7f_ff}, api.Vec{Lo: 0x7f_01})
	two(api.IMinS, 8, api.Vec{Lo: 0x80_01}, api.Vec{Lo: 0x7f_ff}, api.Vec{Lo: 0x80_ff})
	two(api.IAvgU, 8, splat(8, 255), splat(8, 254), ones)
	two(api.IQ15, 16, splat(16, 32768), splat(16, 32768), splat(16, 32767))

	v, e := vints.One(api.IAbs, 8, api.Vec{Lo: 0x80_81_ff_01})
	holdVec(t, "One(IAbs)", v, e, api.Vec{Lo: 0x80_7f_01_01})
	v, e = vints.One(api.INeg, 32, api.Vec{Lo: 1, Hi: 1 << 32})
	holdVec(t, "One(INeg)", v, e, api.Vec{Lo: 0xffffffff, Hi: 0xffffffff00000000})
	v, e = vints.One(api.IPopcnt, 16, api.Vec{Lo: 0xffff_00f1, Hi: 0x8000_0000_0000_0000})
	holdVec(t, "One(IPopcnt)", v, e, api.Vec{Lo: 0x0010_0005, Hi: 0x0001_0000_0000_0000})
	v, e = vints.One(api.INot, 64, api.Vec{Lo: 0xff})
	holdVec(t, "One(INot)", v, e, api.Vec{Lo: 0xffffffffffffff00, Hi: math.MaxUint64})

	v, e = vints.Than(api.ILtS, 8, splat(8, 255), splat(8, 0))
	holdVec(t, "Than(ILtS)", v, e, splat(8, 255))
	v, e = vints.Than(api.ILtU, 8, splat(8, 255), splat(8, 0))
	holdVec(t, "Than(ILtU)", v, e, api.Vec{})
	v, e = vints.Than(api.IEq, 16, api.Vec{Lo: 0x0001_0002, Hi: 0x0100}, api.Vec{Lo: 0x0001_0003, Hi: 0x0101})
	holdVec(t, "Than(IEq)", v, e, api.Vec{Lo: 0xffffffff_ffff0000, Hi: 0xffffffff_ffff0000})

	v, e = vints.Shift(api.IShl, 16, splat(16, 1), 17)
	holdVec(t, "Shift(IShl)", v, e, splat(16, 2))
	v, e = vints.Shift(api.IShrS, 8, api.Vec{Lo: 0x80_40}, 3)
	holdVec(t, "Shift(IShrS)", v, e, api.Vec{Lo: 0xf0_08})
	v, e = vints.Shift(api.IShrU, 8, api.Vec{Lo: 0x80_40}, 3)
	holdVec(t, "Shift(IShrU)", v, e, api.Vec{Lo: 0x10_08})
}

// P7.1: each operator of two at each width, each two of the pool in each lane.
func TestTwo(t *testing.T) {
	for _, w := range allWidths {
		for _, op := range twoOps {
			if op == api.IQ15 && w != 16 {
				continue
			}
			pairs(w, func(a, b api.Vec) {
				v, e := vints.Two(op, w, a, b)
				holdVec(t, fmt.Sprintf("Two(%d, %d, %x, %x)", op, w, a, b), v, e, lanewise(w, a, b, func(x, y uint64) uint64 {
					return wantTwo(op, w, x, y)
				}))
			})
		}
	}
}

// P7.1: each operator of one at each width, each number of the pool in each lane.
func TestOne(t *testing.T) {
	for _, w := range allWidths {
		for _, op := range oneOps {
			for _, a := range vectors(w) {
				v, e := vints.One(op, w, a)
				holdVec(t, fmt.Sprintf("One(%d, %d, %x)", op, w, a), v, e, lanewise(w, a, a, func(x, _ uint64) uint64 {
					return wantOne(op, w, x)
				}))
			}
		}
	}
}

// P7.1: each comparison at each width, each two of the pool in each lane.
func TestThan(t *testing.T) {
	for _, w := range allWidths {
		for _, op := range thanOps {
			pairs(w, func(a, b api.Vec) {
				v, e := vints.Than(op, w, a, b)
				holdVec(t, fmt.Sprintf("Than(%d, %d, %x, %x)", op, w, a, b), v, e, lanewise(w, a, b, func(x, y uint64) uint64 {
					return wantThan(op, w, x, y)
				}))
			})
		}
	}
}

// P7.1: with signs and without, at the least and the greatest number, in one lane alone.
func TestThanAtTheEdges(t *testing.T) {
	for _, w := range allWidths {
		least, most := highest(w), highest(w)-1 // by signed worths
		for i := range 128 / w {
			lane := alone(w, i, top(w), 0)
			others := alone(w, i, 0, top(w))
			for _, c := range []struct {
				op   api.IntOp
				a, b uint64
				want api.Vec
			}{
				{api.ILtS, least, most, lane}, {api.ILtS, most, least, api.Vec{}}, {api.ILtU, least, most, api.Vec{}}, {api.ILtU, most, least, lane},
				{api.IGtS, least, most, api.Vec{}}, {api.IGtS, most, least, lane}, {api.IGtU, least, most, lane}, {api.IGtU, most, least, api.Vec{}},
				{api.ILtU, 0, top(w), lane}, {api.ILtS, 0, top(w), api.Vec{}}, {api.IGtU, 0, top(w), api.Vec{}}, {api.IGtS, 0, top(w), lane},
				{api.ILeS, least, most, ones}, {api.ILeS, most, least, others}, {api.ILeU, least, most, others}, {api.ILeU, most, least, ones},
				{api.IGeS, least, most, others}, {api.IGeS, most, least, ones}, {api.IGeU, least, most, ones}, {api.IGeU, most, least, others},
				{api.IEq, least, most, others}, {api.IEq, least, least, ones}, {api.INe, 0, top(w), lane}, {api.INe, top(w), top(w), api.Vec{}},
				{api.ILtS, least, least, api.Vec{}}, {api.ILeS, least, least, ones}, {api.IGtU, top(w), top(w), api.Vec{}}, {api.IGeU, top(w), top(w), ones},
			} {
				v, e := vints.Than(c.op, w, alone(w, i, c.a, 0), alone(w, i, c.b, 0))
				holdVec(t, fmt.Sprintf("Than(%d, %d) of %x and %x in lane %d", c.op, w, c.a, c.b, i), v, e, c.want)
			}
		}
	}
}

// P7.1: by nothing, by just below, just and just above the width, and by numbers far above it.
func TestShift(t *testing.T) {
	for _, w := range allWidths {
		u := uint64(w)
		by := []uint64{0, 1, 2, u/2 - 1, u / 2, u - 1, u, u + 1, 2*u - 1, 2 * u, 2*u + 1, 127, 128, 255, 256, 256 + u, 257,
			1<<31 + 3, 1 << 32, 1<<32 + 1, 1<<63 - 1, 1 << 63, 1<<63 + 5, math.MaxUint64 - 1, math.MaxUint64}
		for _, op := range shiftOps {
			for _, a := range vectors(w) {
				for _, n := range by {
					v, e := vints.Shift(op, w, a, n)
					holdVec(t, fmt.Sprintf("Shift(%d, %d, %x, %d)", op, w, a, n), v, e, lanewise(w, a, a, func(x, _ uint64) uint64 {
						return wantShift(op, w, x, n)
					}))
				}
			}
		}
	}
}

// P7.1: by multiples of the width a vector stays, and by the greatest number each lane goes by w - 1.
func TestShiftGoesRound(t *testing.T) {
	for _, w := range allWidths {
		for _, op := range shiftOps {
			for _, n := range []uint64{0, uint64(w), 2 * uint64(w), 3 * uint64(w), math.MaxUint64 - uint64(w) + 1} {
				for _, a := range some() {
					v, e := vints.Shift(op, w, a, n)
					holdVec(t, fmt.Sprintf("Shift(%d, %d, %x, %d)", op, w, a, n), v, e, a)
				}
			}
		}
		for _, n := range []uint64{math.MaxUint64, uint64(w) - 1, 2*uint64(w) - 1} {
			v, e := vints.Shift(api.IShl, w, ones, n)
			holdVec(t, fmt.Sprintf("Shift(IShl, %d, ones, %d)", w, n), v, e, splat(w, highest(w)))
			v, e = vints.Shift(api.IShrU, w, ones, n)
			holdVec(t, fmt.Sprintf("Shift(IShrU, %d, ones, %d)", w, n), v, e, splat(w, 1))
			v, e = vints.Shift(api.IShrS, w, splat(w, highest(w)), n)
			holdVec(t, fmt.Sprintf("Shift(IShrS, %d, %d)", w, n), v, e, ones)
		}
	}
}

// P7.1: every number of an operator that a function has not is refused at each width: the four of dividing and
// those that move, of Two; all of the other kinds; 0, 255 and the others that are none. No trap is answered.
func TestNoOperators(t *testing.T) {
	for _, w := range allWidths {
		for n := range 256 {
			op := api.IntOp(n)
			for _, a := range some() {
				for _, b := range some() {
					what := fmt.Sprintf("(%d, %d, %x, %x)", op, w, a, b)
					if !slices.Contains(twoOps, op) || op == api.IQ15 && w != 16 {
						v, e := vints.Two(op, w, a, b)
						refused(t, "Two"+what, v, e)
					}
					if !slices.Contains(thanOps, op) {
						v, e := vints.Than(op, w, a, b)
						refused(t, "Than"+what, v, e)
					}
					if !slices.Contains(oneOps, op) {
						v, e := vints.One(op, w, a)
						refused(t, "One"+what, v, e)
					}
					if !slices.Contains(shiftOps, op) {
						v, e := vints.Shift(op, w, a, b.Lo)
						refused(t, "Shift"+what, v, e)
					}
				}
			}
		}
	}
}

// P7.1: by name, so that no list above can leave one out.
func TestRefusedByName(t *testing.T) {
	for _, op := range []api.IntOp{api.IDivU, api.IRemU, api.IDivS, api.IRemS, api.IShl, api.IShrU, api.IShrS, api.IRotl, api.IRotr,
		api.IClz, api.ICtz, api.IPopcnt, api.IAbs, api.INeg, api.INot, api.IEq, api.IGeS, api.NoInt, 255} {
		v, e := vints.Two(op, 32, splat(32, 9), splat(32, 2))
		refused(t, fmt.Sprintf("Two(%d)", op), v, e)
	}
	for _, op := range []api.IntOp{api.IClz, api.ICtz, api.IAdd, api.IQ15, api.IEq, api.IGeS, api.NoInt, 255} {
		v, e := vints.One(op, 32, splat(32, 9))
		refused(t, fmt.Sprintf("One(%d)", op), v, e)
	}
	for _, op := range []api.IntOp{api.IRotl, api.IRotr, api.IAdd, api.IDivU, api.IAnd, api.IXor, api.IAddU, api.INot, api.IEq, api.NoInt, 255} {
		v, e := vints.Shift(op, 32, splat(32, 9), 2)
		refused(t, fmt.Sprintf("Shift(%d)", op), v, e)
	}
	for _, op := range []api.IntOp{api.IAdd, api.IMinU, api.IQ15, api.IClz, api.INot, api.NoInt, api.IGeS + 1, 255} {
		v, e := vints.Than(op, 32, splat(32, 9), splat(32, 2))
		refused(t, fmt.Sprintf("Than(%d)", op), v, e)
	}
	for _, w := range []int{8, 32, 64} {
		v, e := vints.Two(api.IQ15, w, splat(w, 1), splat(w, 1))
		refused(t, fmt.Sprintf("Two(IQ15, %d)", w), v, e)
	}
}

// P7.1 to P7.3: widths that are none, with every operator.
func TestNoWidths(t *testing.T) {
	for _, w := range noWidths() {
		for _, a := range some() {
			for n := range 256 {
				op := api.IntOp(n)
				what := fmt.Sprintf("(%d, %d, %x)", op, w, a)
				v, e := vints.Two(op, w, a, a)
				refused(t, "Two"+what, v, e)
				v, e = vints.One(op, w, a)
				refused(t, "One"+what, v, e)
				v, e = vints.Than(op, w, a, a)
				refused(t, "Than"+what, v, e)
				v, e = vints.Shift(op, w, a, a.Lo)
				refused(t, "Shift"+what, v, e)
			}
			if is, e := vints.All(w, a); is || e != api.ErrArg {
				t.Errorf("All(%d, %x) = %v, %v; want ErrArg alone", w, a, is, e)
			}
			if n, e := vints.Mask(w, a); n != 0 || e != api.ErrArg {
				t.Errorf("Mask(%d, %x) = %x, %v; want ErrArg alone", w, a, n, e)
			}
			refusedHalves(t, w, a, true, true, true)
		}
	}
}

// refusedHalves holds that those functions refuse the width, with signs and without, low and high.
func refusedHalves(t *testing.T, w int, a api.Vec, narrow, wide, pairs bool) {
	t.Helper()
	for _, signed := range []bool{false, true} {
		what := fmt.Sprintf("(%d, %v, %x)", w, signed, a)
		if narrow {
			v, e := vints.Narrow(w, signed, a, a)
			refused(t, "Narrow"+what, v, e)
		}
		if pairs {
			v, e := vints.Pairs(w, signed, a)
			refused(t, "Pairs"+what, v, e)
		}
		if !wide {
			continue
		}
		for _, high := range []bool{false, true} {
			v, e := vints.Wide(w, signed, high, a)
			refused(t, "Wide"+what, v, e)
			v, e = vints.Times(w, signed, high, a, a)
			refused(t, "Times"+what, v, e)
		}
	}
}

// P7.3: the widths that some have and others have not.
func TestOtherWidths(t *testing.T) {
	for _, a := range some() {
		refusedHalves(t, 8, a, true, false, false)
		refusedHalves(t, 32, a, false, false, true)
		refusedHalves(t, 64, a, true, true, true)
	}
}

func holdAll(t *testing.T, w int, v api.Vec, want bool) {
	t.Helper()
	if is, e := vints.All(w, v); is != want || e != api.OK {
		t.Errorf("All(%d, %x) = %v, %v; want %v", w, v, is, e, want)
	}
}

func holdMask(t *testing.T, w int, v api.Vec, want uint64) {
	t.Helper()
	if n, e := vints.Mask(w, v); n != want || e != api.OK {
		t.Errorf("Mask(%d, %x) = %x, %v; want %x", w, v, n, e, want)
	}
}

// P7.2: a single lane that is 0, in each place, beside lanes with any one bit; and a single one that is not.
func TestAll(t *testing.T) {
	holdAll(t, 32, splat(32, 0), false)
	holdAll(t, 64, splat(64, 1), true)
	holdAll(t, 64, api.Vec{Lo: 1}, false)
	holdAll(t, 64, api.Vec{Hi: 1}, false)
	// Eight bits that are 0, but not those of one lane.
	holdAll(t, 8, api.Vec{Lo: 0xffffffff_fffff00f, Hi: math.MaxUint64}, true)
	for _, w := range allWidths {
		for bit := range w {
			n := uint64(1) << bit
			holdAll(t, w, splat(w, n), true)
			for i := range 128 / w {
				holdAll(t, w, alone(w, i, 0, n), false)
				holdAll(t, w, alone(w, i, 0, top(w)), false)
				holdAll(t, w, alone(w, i, n, 0), false)
				holdAll(t, w, alone(w, i, n, top(w)), true)
			}
		}
		for _, v := range vectors(w) {
			holdAll(t, w, v, !slices.Contains(lanesOf(w, v), 0))
		}
	}
}

// P7.2: a single lane with the highest bit, in each place, and all but that one; no other bit counts.
func TestMask(t *testing.T) {
	holdMask(t, 8, splat(8, 128), 65535)
	holdMask(t, 64, splat(64, 1), 0)
	holdMask(t, 16, api.Vec{Lo: 0x8000, Hi: 1 << 63}, 0x81)
	holdMask(t, 32, api.Vec{Lo: 0x80000000_7fffffff, Hi: 0xffffffff}, 6)
	for _, w := range allWidths {
		count := 128 / w
		every := uint64(1)<<count - 1
		holdMask(t, w, ones, every)
		holdMask(t, w, api.Vec{}, 0)
		holdMask(t, w, splat(w, highest(w)), every)
		holdMask(t, w, splat(w, highest(w)-1), 0)
		for i := range count {
			for _, n := range []uint64{highest(w), top(w), highest(w) + 1} {
				for _, rest := range []uint64{0, 1, highest(w) - 1} {
					holdMask(t, w, alone(w, i, n, rest), 1<<i)
					holdMask(t, w, alone(w, i, rest, n), every-1<<i)
				}
			}
		}
		for _, v := range vectors(w) {
			want := uint64(0)
			for i, x := range lanesOf(w, v) {
				if x >= highest(w) {
					want += 1 << i
				}
			}
			holdMask(t, w, v, want)
		}
	}
}

// edges are numbers of width w just within and just beyond the width w / 2, with signs and without.
func edges(w int) []uint64 {
	h, t := highest(w/2), top(w/2)
	l := []uint64{0, 1, h - 1, h, h + 1, t - 1, t, t + 1, t + 2, highest(w) - 1, highest(w), highest(w) + 1}
	for _, n := range []uint64{1, 2, h - 1, h, h + 1, h + 2, t, t + 1, t + 2} {
		l = append(l, top(w)-n+1) // less n
	}
	return l
}

// P7.3: Narrow by hand.
func TestNarrowByHand(t *testing.T) {
	for _, c := range []struct {
		w      int
		signed bool
		n      uint64
		want   uint64
	}{
		{16, true, 127, 127}, {16, true, 128, 127}, {16, true, 32767, 127}, {16, true, 0xff80, 128}, {16, true, 0xff7f, 128}, {16, true, 32768, 128}, {16, true, 65535, 255}, {16, true, 300, 127},
		{16, false, 127, 127}, {16, false, 128, 128}, {16, false, 255, 255}, {16, false, 256, 255}, {16, false, 32767, 255}, {16, false, 32768, 0}, {16, false, 65535, 0}, {16, false, 0xff80, 0}, {16, false, 300, 255},
		{32, true, 32767, 32767}, {32, true, 32768, 32767}, {32, true, 1<<31 - 1, 32767}, {32, true, 0xffff8000, 32768}, {32, true, 0xffff7fff, 32768}, {32, true, 1 << 31, 32768}, {32, true, 0xffffffff, 65535},
		{32, false, 32768, 32768}, {32, false, 65535, 65535}, {32, false, 65536, 65535}, {32, false, 1<<31 - 1, 65535}, {32, false, 1 << 31, 0}, {32, false, 0xffffffff, 0}, {32, false, 1, 1},
	} {
		what := fmt.Sprintf("Narrow(%d, %v) of %x", c.w, c.signed, c.n)
		v, e := vints.Narrow(c.w, c.signed, splat(c.w, c.n), splat(c.w, 7))
		holdVec(t, what, v, e, api.Vec{Lo: splat(c.w/2, c.want).Lo, Hi: splat(c.w/2, 7).Lo})
		v, e = vints.Narrow(c.w, c.signed, splat(c.w, 7), splat(c.w, c.n))
		holdVec(t, what, v, e, api.Vec{Lo: splat(c.w/2, 7).Lo, Hi: splat(c.w/2, c.want).Lo})
	}
	// Every lane goes to its own place, a's ahead of b's.
	a, b := api.Vec{Lo: 0x0003_0002_0001_0000, Hi: 0x0007_0006_0005_0004}, api.Vec{Lo: 0x000b_000a_0009_0008, Hi: 0x000f_000e_000d_000c}
	for _, signed := range []bool{false, true} {
		v, e := vints.Narrow(16, signed, a, b)
		holdVec(t, "Narrow(16)", v, e, api.Vec{Lo: 0x0706050403020100, Hi: 0x0f0e0d0c0b0a0908})
		v, e = vints.Narrow(32, signed, api.Vec{Lo: 2<<32 | 1, Hi: 4<<32 | 3}, api.Vec{Lo: 6<<32 | 5, Hi: 8<<32 | 7})
		holdVec(t, "Narrow(32)", v, e, api.Vec{Lo: 0x0004_0003_0002_0001, Hi: 0x0008_0007_0006_0005})
	}
}

func wantNarrow(w int, signed bool, a, b api.Vec) api.Vec {
	var l []uint64
	for _, n := range append(lanesOf(w, a), lanesOf(w, b)...) {
		l = append(l, number(w/2, held(signed, w/2, worth(w, n))))
	}
	return vecOf(w/2, l)
}

// P7.3: each of the edges in each lane of a and of b.
func TestNarrow(t *testing.T) {
	for _, w := range []int{16, 32} {
		for _, signed := range []bool{false, true} {
			hold := func(a, b api.Vec) {
				t.Helper()
				v, e := vints.Narrow(w, signed, a, b)
				holdVec(t, fmt.Sprintf("Narrow(%d, %v, %x, %x)", w, signed, a, b), v, e, wantNarrow(w, signed, a, b))
			}
			l := edges(w)
			for i := range l {
				for k := range l {
					hold(turned(w, l, i), turned(w, l, k))
				}
			}
			pairs(w, hold)
		}
	}
}

// P7.3: Wide by hand: the least and the greatest number, low and high.
func TestWideByHand(t *testing.T) {
	for _, w := range []int{8, 16, 32} {
		h, t2 := highest(w), top(2*w)
		for _, c := range []struct {
			signed  bool
			n, want uint64
		}{
			{true, h, t2 - h + 1}, {true, h - 1, h - 1}, {true, top(w), t2}, {true, 0, 0},
			{false, h, h}, {false, h - 1, h - 1}, {false, top(w), top(w)}, {false, 0, 0},
		} {
			half, want := splat(w, c.n).Lo, splat(2*w, c.want)
			what := fmt.Sprintf("Wide(%d, %v) of %x", w, c.signed, c.n)
			v, e := vints.Wide(w, c.signed, false, api.Vec{Lo: half, Hi: ^half})
			holdVec(t, what, v, e, want)
			v, e = vints.Wide(w, c.signed, true, api.Vec{Lo: ^half, Hi: half})
			holdVec(t, what, v, e, want)
		}
	}
	a := api.Vec{Lo: 0x0706050403020180, Hi: 0xff0e0d0c0b0a0908}
	for _, c := range []struct {
		w            int
		signed, high bool
		want         api.Vec
	}{
		{8, true, false, api.Vec{Lo: 0x0003_0002_0001_ff80, Hi: 0x0007_0006_0005_0004}}, {8, false, false, api.Vec{Lo: 0x0003_0002_0001_0080, Hi: 0x0007_0006_0005_0004}},
		{8, true, true, api.Vec{Lo: 0x000b_000a_0009_0008, Hi: 0xffff_000e_000d_000c}}, {8, false, true, api.Vec{Lo: 0x000b_000a_0009_0008, Hi: 0x00ff_000e_000d_000c}},
		{16, true, false, api.Vec{Lo: 0x00000302_00000180, Hi: 0x00000706_00000504}}, {16, true, true, api.Vec{Lo: 0x00000b0a_00000908, Hi: 0xffffff0e_00000d0c}},
		{32, true, false, api.Vec{Lo: 0x03020180, Hi: 0x07060504}}, {32, true, true, api.Vec{Lo: 0x0b0a0908, Hi: 0xffffffff_ff0e0d0c}}, {32, false, true, api.Vec{Lo: 0x0b0a0908, Hi: 0xff0e0d0c}},
	} {
		v, e := vints.Wide(c.w, c.signed, c.high, a)
		holdVec(t, fmt.Sprintf("Wide(%d, %v, %v)", c.w, c.signed, c.high), v, e, c.want)
	}
}

// wide are the worths of the lower half of a vector's lanes, or of the higher one.
func wide(w int, signed, high bool, a api.Vec) []*big.Int {
	var l []*big.Int
	count := 64 / w
	for i, n := range lanesOf(w, a) {
		if (i >= count) == high {
			l = append(l, worthIf(signed, w, n))
		}
	}
	return l
}

// ofWorths is the vector of the worths' numbers.
func ofWorths(w int, l []*big.Int) api.Vec {
	var out []uint64
	for _, x := range l {
		out = append(out, number(w, x))
	}
	return vecOf(w, out)
}

// signsAndHalves calls f with both, each way.
func signsAndHalves(f func(signed, high bool)) {
	for _, signed := range []bool{false, true} {
		f(signed, false)
		f(signed, true)
	}
}

// P7.3: each number of the pool in each lane.
func TestWide(t *testing.T) {
	for _, w := range []int{8, 16, 32} {
		signsAndHalves(func(signed, high bool) {
			for _, a := range vectors(w) {
				v, e := vints.Wide(w, signed, high, a)
				holdVec(t, fmt.Sprintf("Wide(%d, %v, %v, %x)", w, signed, high, a), v, e, ofWorths(2*w, wide(w, signed, high, a)))
			}
		})
	}
}

// P7.3: Times by hand: the least numbers with signs, the greatest without, and numbers of unlike signs.
func TestTimesByHand(t *testing.T) {
	for _, high := range []bool{false, true} {
		for _, c := range []struct {
			w          int
			signed     bool
			a, b, want uint64
		}{
			{8, true, 128, 128, 16384}, {16, true, 32768, 32768, 1 << 30}, {32, true, 1 << 31, 1 << 31, 1 << 62},
			{8, false, 128, 128, 16384}, {16, false, 32768, 32768, 1 << 30}, {32, false, 1 << 31, 1 << 31, 1 << 62},
			{8, false, 255, 255, 65025}, {16, false, 65535, 65535, 0xfffe0001}, {32, false, 0xffffffff, 0xffffffff, 0xfffffffe_00000001},
			{8, true, 255, 255, 1}, {16, true, 65535, 65535, 1}, {32, true, 0xffffffff, 0xffffffff, 1},
			{8, true, 128, 127, 0xc080}, {16, true, 32768, 32767, 0xc0008000}, {32, true, 1 << 31, 1<<31 - 1, 0xc0000000_80000000},
			{8, true, 255, 1, 65535}, {8, false, 255, 1, 255}, {32, true, 1, 0xffffffff, math.MaxUint64}, {32, false, 1, 0xffffffff, 0xffffffff},
		} {
			other := uint64(3)
			a, b := api.Vec{Lo: splat(c.w, c.a).Lo, Hi: other}, api.Vec{Lo: splat(c.w, c.b).Lo, Hi: other}
			if high {
				a, b = api.Vec{Lo: a.Hi, Hi: a.Lo}, api.Vec{Lo: b.Hi, Hi: b.Lo}
			}
			v, e := vints.Times(c.w, c.signed, high, a, b)
			holdVec(t, fmt.Sprintf("Times(%d, %v, %v) of %x, %x", c.w, c.signed, high, c.a, c.b), v, e, splat(2*c.w, c.want))
		}
	}
	v, e := vints.Times(16, true, true, api.Vec{Hi: 0x0004_0003_0002_ffff}, api.Vec{Hi: 0x0008_0007_0006_0005})
	holdVec(t, "Times(16)", v, e, api.Vec{Lo: 0x0000000c_fffffffb, Hi: 0x00000020_00000015})
}

// P7.3: each two of the pool in each lane.
func TestTimes(t *testing.T) {
	for _, w := range []int{8, 16, 32} {
		signsAndHalves(func(signed, high bool) {
			pairs(w, func(a, b api.Vec) {
				l, m := wide(w, signed, high, a), wide(w, signed, high, b)
				for i := range l {
					l[i].Mul(l[i], m[i])
				}
				v, e := vints.Times(w, signed, high, a, b)
				holdVec(t, fmt.Sprintf("Times(%d, %v, %v, %x, %x)", w, signed, high, a, b), v, e, ofWorths(2*w, l))
			})
		})
	}
}

// P7.3: Pairs by hand: the greatest and the least numbers, and each lane in its place.
func TestPairsByHand(t *testing.T) {
	for _, c := range []struct {
		w       int
		signed  bool
		n, want uint64
	}{
		{8, false, 255, 510}, {8, true, 255, 65534}, {8, true, 128, 0xff00}, {8, false, 128, 256}, {8, true, 127, 254},
		{16, false, 65535, 131070}, {16, true, 65535, 0xfffffffe}, {16, true, 32768, 0xffff0000}, {16, false, 32768, 65536}, {16, true, 32767, 65534},
	} {
		v, e := vints.Pairs(c.w, c.signed, splat(c.w, c.n))
		holdVec(t, fmt.Sprintf("Pairs(%d, %v) of %x", c.w, c.signed, c.n), v, e, splat(2*c.w, c.want))
	}
	a := api.Vec{Lo: 0x08_07_06_05_04_03_02_01, Hi: 0xff_80_0e_0d_0c_0b_0a_09}
	v, e := vints.Pairs(8, true, a)
	holdVec(t, "Pairs(8, true)", v, e, api.Vec{Lo: 0x000f_000b_0007_0003, Hi: 0xff7f_001b_0017_0013})
	v, e = vints.Pairs(8, false, a)
	holdVec(t, "Pairs(8, false)", v, e, api.Vec{Lo: 0x000f_000b_0007_0003, Hi: 0x017f_001b_0017_0013})
	v, e = vints.Pairs(16, true, api.Vec{Lo: 0x0004_0003_0002_0001, Hi: 0x8000_7fff_0006_ffff})
	holdVec(t, "Pairs(16, true)", v, e, api.Vec{Lo: 0x00000007_00000003, Hi: 0xffffffff_00000005})
	v, e = vints.Pairs(16, false, api.Vec{Lo: 0x0004_0003_0002_0001, Hi: 0x8000_7fff_0006_ffff})
	holdVec(t, "Pairs(16, false)", v, e, api.Vec{Lo: 0x00000007_00000003, Hi: 0x0000ffff_00010005})
}

// neighbours are the sums of the worths 2 i and 2 i + 1.
func neighbours(l []*big.Int) []*big.Int {
	var out []*big.Int
	for i := 0; i < len(l); i += 2 {
		out = append(out, new(big.Int).Add(l[i], l[i+1]))
	}
	return out
}

// worths are those of all lanes.
func worths(w int, signed bool, a api.Vec) []*big.Int {
	return append(wide(w, signed, false, a), wide(w, signed, true, a)...)
}

// P7.3: each number of the pool in each lane.
func TestPairs(t *testing.T) {
	for _, w := range []int{8, 16} {
		for _, signed := range []bool{false, true} {
			for _, a := range vectors(w) {
				v, e := vints.Pairs(w, signed, a)
				holdVec(t, fmt.Sprintf("Pairs(%d, %v, %x)", w, signed, a), v, e, ofWorths(2*w, neighbours(worths(w, signed, a))))
			}
		}
	}
}

// P7.3: Dot by hand: the greatest products go around, in one lane alone, too.
func TestDotByHand(t *testing.T) {
	for _, c := range []struct{ a, b, want uint64 }{
		{32768, 32768, 1 << 31}, {32767, 32767, 0x7ffe0002}, {32768, 32767, 0x80010000}, {65535, 65535, 2}, {65535, 1, 0xfffffffe}, {0, 32768, 0},
	} {
		v, e := vints.Dot(splat(16, c.a), splat(16, c.b))
		holdVec(t, fmt.Sprintf("Dot of %x, %x", c.a, c.b), v, e, splat(32, c.want))
	}
	for i := range 4 {
		a := alone(32, i, 0x8000_8000, 0)
		v, e := vints.Dot(a, a)
		holdVec(t, fmt.Sprintf("Dot in lane %d", i), v, e, alone(32, i, 1<<31, 0))
	}
	v, e := vints.Dot(api.Vec{Lo: 0x0004_0003_0002_0001, Hi: 0xffff_0007_0006_0005}, api.Vec{Lo: 0x0001_0002_0003_0004, Hi: 0x0009_0001_8000_0001})
	holdVec(t, "Dot", v, e, api.Vec{Lo: 0x0000000a_0000000a, Hi: 0xfffffffe_fffd0005})
}

// P7.3: each two of the pool in each lane.
func TestDot(t *testing.T) {
	pairs(16, func(a, b api.Vec) {
		l, m := worths(16, true, a), worths(16, true, b)
		for i := range l {
			l[i].Mul(l[i], m[i])
		}
		v, e := vints.Dot(a, b)
		holdVec(t, fmt.Sprintf("Dot(%x, %x)", a, b), v, e, ofWorths(32, neighbours(l)))
	})
}

// P7.4: Narrow of Wide, low and high, is the vector.
func TestNarrowOfWide(t *testing.T) {
	for _, w := range []int{8, 16} {
		for _, signed := range []bool{false, true} {
			for _, a := range vectors(w) {
				low, e := vints.Wide(w, signed, false, a)
				high, f := vints.Wide(w, signed, true, a)
				if e != api.OK || f != api.OK {
					t.Fatalf("Wide: %v, %v", e, f)
				}
				v, e := vints.Narrow(2*w, signed, low, high)
				holdVec(t, fmt.Sprintf("Narrow of Wide(%d, %v, %x)", w, signed, a), v, e, a)
			}
		}
	}
}

// P7.4: of a vector and itself Mask of Than IEq has all lanes, of INe none.
func TestMaskOfSame(t *testing.T) {
	for _, w := range allWidths {
		for _, a := range vectors(w) {
			v, e := vints.Than(api.IEq, w, a, a)
			holdVec(t, fmt.Sprintf("Than(IEq, %d, %x)", w, a), v, e, ones)
			holdMask(t, w, v, 1<<(128/w)-1)
			v, e = vints.Than(api.INe, w, a, a)
			holdVec(t, fmt.Sprintf("Than(INe, %d, %x)", w, a), v, e, api.Vec{})
			holdMask(t, w, v, 0)
		}
	}
}

// P7.4: Dot is the sum of Times' low and high lanes 2 i and 2 i + 1.
func TestDotIsOfTimes(t *testing.T) {
	pairs(16, func(a, b api.Vec) {
		low, e := vints.Times(16, true, false, a, b)
		high, f := vints.Times(16, true, true, a, b)
		if e != api.OK || f != api.OK {
			t.Fatalf("Times: %v, %v", e, f)
		}
		l := append(lanesOf(32, low), lanesOf(32, high)...)
		var even, odd []uint64
		for i := 0; i < len(l); i += 2 {
			even, odd = append(even, l[i]), append(odd, l[i+1])
		}
		want, e := vints.Two(api.IAdd, 32, vecOf(32, even), vecOf(32, odd))
		if e != api.OK {
			t.Fatalf("Two: %v", e)
		}
		v, e := vints.Dot(a, b)
		holdVec(t, fmt.Sprintf("Dot(%x, %x)", a, b), v, e, want)
	})
}

// P7.4: what IAdd answers of a lane is what it answers of that lane alone: no carry goes over.
func TestNoCarry(t *testing.T) {
	for _, w := range allWidths {
		pairs(w, func(a, b api.Vec) {
			v, e := vints.Two(api.IAdd, w, a, b)
			if e != api.OK {
				t.Fatalf("Two: %v", e)
			}
			l, m := lanesOf(w, a), lanesOf(w, b)
			for i, got := range lanesOf(w, v) {
				u, e := vints.Two(api.IAdd, w, alone(w, i, l[i], 0), alone(w, i, m[i], 0))
				holdVec(t, fmt.Sprintf("Two(IAdd, %d) of the lane %d of %x, %x", w, i, a, b), u, e, alone(w, i, got, 0))
			}
		})
		// The greatest sums in one lane leave the others as they are.
		for i := range 128 / w {
			v, e := vints.Two(api.IAdd, w, alone(w, i, top(w), 5), alone(w, i, top(w), 6))
			holdVec(t, fmt.Sprintf("Two(IAdd, %d) in lane %d", w, i), v, e, alone(w, i, top(w)-1, 11))
			v, e = vints.Two(api.ISub, w, alone(w, i, 0, 6), alone(w, i, 1, 5))
			holdVec(t, fmt.Sprintf("Two(ISub, %d) in lane %d", w, i), v, e, alone(w, i, top(w), 1))
			v, e = vints.One(api.INeg, w, alone(w, i, 1, 0))
			holdVec(t, fmt.Sprintf("One(INeg, %d) in lane %d", w, i), v, e, alone(w, i, top(w), 0))
		}
	}
}
