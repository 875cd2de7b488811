package ints_test

import (
	"math"
	"math/big"
	"testing"

	"jacquard/api"
	"jacquard/ints"
)

var allWidths = []int{8, 16, 32, 64}

// The bounds of the kinds of operators, as api numbers them.
const (
	firstTwo, lastTwo   = api.IAdd, api.IQ15
	firstOne, lastOne   = api.IClz, api.INot
	firstThan, lastThan = api.IEq, api.IGeS
)

// top is the greatest number of width w.
func top(w int) uint64 {
	return math.MaxUint64 >> (64 - w)
}

// highest is the number of width w whose highest bit alone is 1.
func highest(w int) uint64 {
	return 1 << (w - 1)
}

func power(n int) *big.Int {
	return new(big.Int).Lsh(big.NewInt(1), uint(n))
}

func plain(a uint64) *big.Int {
	return new(big.Int).SetUint64(a)
}

// worth is the document's word: the signed worth.
func worth(w int, a uint64) *big.Int {
	x := plain(a)
	if x.Cmp(power(w-1)) >= 0 {
		x.Sub(x, power(w))
	}
	return x
}

// number is the document's word: a worth's number.
func number(w int, x *big.Int) uint64 {
	return new(big.Int).Mod(x, power(w)).Uint64()
}

// hold is the document's word: x held within bounds.
func hold(x, low, high *big.Int) *big.Int {
	if x.Cmp(low) < 0 {
		return low
	}
	if x.Cmp(high) > 0 {
		return high
	}
	return x
}

func holdU(w int, x *big.Int) *big.Int {
	return hold(x, big.NewInt(0), new(big.Int).Sub(power(w), big.NewInt(1)))
}

func holdS(w int, x *big.Int) *big.Int {
	return hold(x, new(big.Int).Neg(power(w-1)), new(big.Int).Sub(power(w-1), big.NewInt(1)))
}

// bit is bit i of a, 0 beyond it.
func bit(a uint64, i int) uint64 {
	if i < 0 || i > 63 {
		return 0
	}
	return a >> i & 1
}

// ofBits is the number of width w whose bit i is f(i).
func ofBits(w int, f func(i int) uint64) uint64 {
	var n uint64
	for i := range w {
		n |= f(i) << i
	}
	return n
}

// moved is what the document's table says of the operators that move bits.
func moved(op api.IntOp, w int, a, b uint64) uint64 {
	k := int(b % uint64(w))
	return ofBits(w, func(i int) uint64 {
		switch op {
		case api.IAnd:
			return bit(a, i) * bit(b, i)
		case api.IOr:
			return max(bit(a, i), bit(b, i))
		case api.IXor:
			return (bit(a, i) + bit(b, i)) % 2
		case api.IShl:
			return bit(a, i-k)
		case api.IShrU:
			return bit(a, i+k)
		case api.IShrS:
			return bit(a, min(i+k, w-1))
		case api.IRotl:
			return bit(a, (i-k+w)%w)
		case api.IRotr:
			return bit(a, (i+k)%w)
		}
		panic(op)
	})
}

// parted is what the document's table says of quotients and what is left.
func parted(op api.IntOp, w int, a, b uint64) (*big.Int, api.Errno) {
	if b == 0 {
		return nil, api.ErrTrap
	}
	x, y := plain(a), plain(b)
	if op == api.IDivS || op == api.IRemS {
		x, y = worth(w, a), worth(w, b)
	}
	q, r := new(big.Int).QuoRem(x, y, new(big.Int))
	switch {
	case op == api.IRemU || op == api.IRemS:
		return r, api.OK
	case op == api.IDivS && q.Cmp(power(w-1)) == 0:
		return nil, api.ErrTrap
	}
	return q, api.OK
}

// wantTwo is what the document's table says of an operator of two.
func wantTwo(op api.IntOp, w int, a, b uint64) (uint64, api.Errno) {
	x, y, n := worth(w, a), worth(w, b), new(big.Int)
	switch op {
	case api.IAdd:
		n.Add(plain(a), plain(b))
	case api.ISub:
		n.Sub(plain(a), plain(b))
	case api.IMul:
		n.Mul(plain(a), plain(b))
	case api.IDivU, api.IRemU, api.IDivS, api.IRemS:
		q, e := parted(op, w, a, b)
		if e != api.OK {
			return 0, e
		}
		n = q
	case api.IAddU:
		n = holdU(w, n.Add(plain(a), plain(b)))
	case api.ISubU:
		n = holdU(w, n.Sub(plain(a), plain(b)))
	case api.IAddS:
		n = holdS(w, n.Add(x, y))
	case api.ISubS:
		n = holdS(w, n.Sub(x, y))
	case api.IMinU:
		return min(a, b), api.OK
	case api.IMaxU:
		return max(a, b), api.OK
	case api.IMinS:
		n = x
		if y.Cmp(x) < 0 {
			n = y
		}
	case api.IMaxS:
		n = x
		if y.Cmp(x) > 0 {
			n = y
		}
	case api.IAvgU:
		n.Add(plain(a), plain(b))
		n.Rsh(n.Add(n, big.NewInt(1)), 1)
	case api.IQ15:
		if w != 16 {
			return 0, api.ErrArg
		}
		n.Mul(x, y)
		n.Add(n, power(14))
		n = holdS(w, n.Div(n, power(15))) // Div of a divisor above 0 rounds down
	default:
		return moved(op, w, a, b), api.OK
	}
	return number(w, n), api.OK
}

// wantOne is what the document says of an operator of one.
func wantOne(op api.IntOp, w int, a uint64) uint64 {
	switch op {
	case api.IClz:
		n := 0
		for n < w && bit(a, w-1-n) == 0 {
			n++
		}
		return uint64(n)
	case api.ICtz:
		n := 0
		for n < w && bit(a, n) == 0 {
			n++
		}
		return uint64(n)
	case api.IPopcnt:
		var n uint64
		for i := range w {
			n += bit(a, i)
		}
		return n
	case api.IAbs:
		return number(w, new(big.Int).Abs(worth(w, a)))
	case api.INeg:
		return number(w, new(big.Int).Neg(plain(a)))
	case api.INot:
		return ofBits(w, func(i int) uint64 { return 1 - bit(a, i) })
	}
	panic(op)
}

// wantThan is what the document says of a comparison.
func wantThan(op api.IntOp, w int, a, b uint64) bool {
	u, s := plain(a).Cmp(plain(b)), worth(w, a).Cmp(worth(w, b))
	switch op {
	case api.IEq:
		return u == 0
	case api.INe:
		return u != 0
	case api.ILtU:
		return u < 0
	case api.ILtS:
		return s < 0
	case api.IGtU:
		return u > 0
	case api.IGtS:
		return s > 0
	case api.ILeU:
		return u <= 0
	case api.ILeS:
		return s <= 0
	case api.IGeU:
		return u >= 0
	case api.IGeS:
		return s >= 0
	}
	panic(op)
}

// some are numbers of width w: all of 8 bits; of the others the edges, the
// powers of two with their neighbours, and some that follow no rule.
func some(w int) []uint64 {
	var l []uint64
	if w == 8 {
		for n := range uint64(256) {
			l = append(l, n)
		}
		return l
	}
	for i := 0; i < w; i++ {
		if near := i < 2 || i == 7 || i == 8 || i > w-3; near || i%8 == 0 {
			l = append(l, 1<<i-1, 1<<i, 1<<i+1, top(w)-1<<i)
		}
	}
	l = append(l, uint64(w)-1, uint64(w), uint64(w)+1, uint64(2*w), uint64(3*w)+5, top(w)-1, top(w), highest(w)-2)
	n := uint64(0x9e3779b97f4a7c15)
	for range 24 {
		n = n*6364136223846793005 + 1442695040888963407
		l = append(l, n>>(64-w), n>>(64-w/2), n>>(64-w)|highest(w))
	}
	return l
}

// few are the edges that the document names, and some beside them.
func few(w int) []uint64 {
	return []uint64{0, 1, 2, 3, 5, uint64(w) - 1, uint64(w), uint64(w) + 1, highest(w) - 2, highest(w) - 1, highest(w), highest(w) + 1, top(w) - 1, top(w)}
}

// two is Two where no error is looked for.
func two(t *testing.T, op api.IntOp, w int, a, b uint64) uint64 {
	t.Helper()
	n, e := ints.Two(op, w, a, b)
	if e != api.OK {
		t.Fatalf("Two(%d, %d, %d, %d) = %v", op, w, a, b, e)
	}
	return n
}

// one is One where no error is looked for.
func one(t *testing.T, op api.IntOp, w int, a uint64) uint64 {
	t.Helper()
	n, e := ints.One(op, w, a)
	if e != api.OK {
		t.Fatalf("One(%d, %d, %d) = %v", op, w, a, e)
	}
	return n
}

type twoCase struct {
	op   api.IntOp
	w    int
	a, b uint64
	n    uint64
	e    api.Errno
}

func holdCases(t *testing.T, l []twoCase) {
	t.Helper()
	for _, c := range l {
		if n, e := ints.Two(c.op, c.w, c.a, c.b); n != c.n || e != c.e {
			t.Errorf("Two(%d, %d, %d, %d) = %d, %v; want %d, %v", c.op, c.w, c.a, c.b, n, e, c.n, c.e)
		}
	}
}

// P3.1: the document's examples.
func TestTwoExamples(t *testing.T) {
	holdCases(t, []twoCase{
		{api.IDivS, 32, 4294967289, 2, 4294967293, api.OK},
		{api.IRemS, 32, 4294967289, 2, 4294967295, api.OK},
		{api.IDivS, 32, 1 << 31, 1<<32 - 1, 0, api.ErrTrap},
		{api.IRemS, 32, 1 << 31, 1<<32 - 1, 0, api.OK},
		{api.IDivU, 8, 5, 0, 0, api.ErrTrap},
		{api.IShrS, 8, 128, 9, 192, api.OK},
		{api.IRotl, 16, 32769, 1, 3, api.OK},
		{api.IAddS, 8, 100, 100, 127, api.OK},
		{api.ISubU, 8, 3, 5, 0, api.OK},
		{api.IAvgU, 8, 255, 254, 255, api.OK},
		{api.IQ15, 16, 32768, 32768, 32767, api.OK},
		{api.IAdd, 8, 256, 0, 0, api.ErrArg},
		{api.IQ15, 8, 1, 1, 0, api.ErrArg},
	})
}

// P3.1: sums, products, quotients at the edges of each width, by hand.
func TestTwoSums(t *testing.T) {
	for _, w := range allWidths {
		high, all := highest(w), top(w)
		holdCases(t, []twoCase{
			{api.IAdd, w, all, 1, 0, api.OK},
			{api.IAdd, w, high, high, 0, api.OK},
			{api.IAdd, w, high - 1, 1, high, api.OK},
			{api.ISub, w, 0, 1, all, api.OK},
			{api.ISub, w, high, 1, high - 1, api.OK},
			{api.IMul, w, all, all, 1, api.OK},
			{api.IMul, w, high, 2, 0, api.OK},
			{api.IMul, w, high - 1, 2, all - 1, api.OK},
			{api.IDivU, w, high, all, 0, api.OK},
			{api.IDivU, w, all, 1, all, api.OK},
			{api.IRemU, w, high, all, high, api.OK},
			{api.IRemU, w, all, high, high - 1, api.OK},
			{api.IDivS, w, high, all, 0, api.ErrTrap},
			{api.IDivS, w, high, 1, high, api.OK},
			{api.IDivS, w, high + 1, all, high - 1, api.OK},
			{api.IDivS, w, high, high, 1, api.OK},
			{api.IDivS, w, all - 6, 2, all - 2, api.OK},
			{api.IDivS, w, 7, all - 1, all - 2, api.OK},
			{api.IRemS, w, high, all, 0, api.OK},
			{api.IRemS, w, all - 6, 2, all, api.OK},
			{api.IRemS, w, 7, all - 1, 1, api.OK},
			{api.IRemS, w, high, high - 1, all, api.OK},
		})
		for _, op := range []api.IntOp{api.IDivU, api.IRemU, api.IDivS, api.IRemS} {
			for _, a := range few(w) {
				holdCases(t, []twoCase{{op, w, a, 0, 0, api.ErrTrap}})
			}
		}
	}
}

// P3.1: moves and turns by 0, by w - 1, by w and by more.
func TestTwoMoves(t *testing.T) {
	for _, w := range allWidths {
		high, all, u := highest(w), top(w), uint64(w)
		holdCases(t, []twoCase{
			{api.IShl, w, all, u - 1, high, api.OK},
			{api.IShl, w, all, u + 1, all - 1, api.OK},
			{api.IShrU, w, all, u - 1, 1, api.OK},
			{api.IShrU, w, high, u + 1, high / 2, api.OK},
			{api.IShrS, w, high, u - 1, all, api.OK},
			{api.IShrS, w, high, u + 1, high + high/2, api.OK},
			{api.IShrS, w, high - 1, u - 1, 0, api.OK},
			{api.IShrS, w, high - 1, all, 0, api.OK},
			{api.IShl, w, 3, all, high, api.OK},
			{api.IRotl, w, high + 1, 1, 3, api.OK},
			{api.IRotl, w, 3, u - 1, high + 1, api.OK},
			{api.IRotl, w, high, u + 1, 1, api.OK},
			{api.IRotr, w, 3, 1, high + 1, api.OK},
			{api.IRotr, w, high + 1, u - 1, 3, api.OK},
			{api.IRotr, w, 1, 3*u + 1, high, api.OK},
		})
		for _, op := range []api.IntOp{api.IShl, api.IShrU, api.IShrS, api.IRotl, api.IRotr} {
			for _, a := range few(w) {
				holdCases(t, []twoCase{{op, w, a, 0, a, api.OK}, {op, w, a, u, a, api.OK}, {op, w, a, 2 * u, a, api.OK}})
			}
		}
	}
}

// P3.1: held sums, the lesser, the greater, the middle, on both sides of their bounds.
func TestTwoHeld(t *testing.T) {
	for _, w := range allWidths {
		high, all := highest(w), top(w)
		holdCases(t, []twoCase{
			{api.IAddU, w, all - 1, 1, all, api.OK},
			{api.IAddU, w, all, 1, all, api.OK},
			{api.IAddU, w, all, all, all, api.OK},
			{api.IAddU, w, high, high - 1, all, api.OK},
			{api.ISubU, w, 5, 5, 0, api.OK},
			{api.ISubU, w, 5, 4, 1, api.OK},
			{api.ISubU, w, 0, all, 0, api.OK},
			{api.IAddS, w, high - 2, 1, high - 1, api.OK},
			{api.IAddS, w, high - 1, 1, high - 1, api.OK},
			{api.IAddS, w, high - 1, high - 1, high - 1, api.OK},
			{api.IAddS, w, high + 1, all, high, api.OK},
			{api.IAddS, w, high, all, high, api.OK},
			{api.IAddS, w, high, high, high, api.OK},
			{api.IAddS, w, high, high - 1, all, api.OK},
			{api.ISubS, w, high + 1, 1, high, api.OK},
			{api.ISubS, w, high, 1, high, api.OK},
			{api.ISubS, w, high, high - 1, high, api.OK},
			{api.ISubS, w, high - 2, all, high - 1, api.OK},
			{api.ISubS, w, high - 1, all, high - 1, api.OK},
			{api.ISubS, w, 0, high, high - 1, api.OK},
			{api.ISubS, w, all, high, high - 1, api.OK},
			{api.ISubS, w, high, high, 0, api.OK},
			{api.IMinU, w, high, high - 1, high - 1, api.OK},
			{api.IMaxU, w, high, high - 1, high, api.OK},
			{api.IMinS, w, high, high - 1, high, api.OK},
			{api.IMaxS, w, high, high - 1, high - 1, api.OK},
			{api.IMinS, w, all, 1, all, api.OK},
			{api.IMaxS, w, all, 0, 0, api.OK},
			{api.IAvgU, w, all, all, all, api.OK},
			{api.IAvgU, w, all, 0, high, api.OK},
			{api.IAvgU, w, 0, 1, 1, api.OK},
			{api.IAvgU, w, 0, 0, 0, api.OK},
		})
	}
	holdCases(t, []twoCase{
		{api.IQ15, 16, 32768, 32767, 32769, api.OK},
		{api.IQ15, 16, 32767, 32767, 32766, api.OK},
		{api.IQ15, 16, 1, 16384, 1, api.OK},
		{api.IQ15, 16, 1, 16383, 0, api.OK},
		{api.IQ15, 16, 65535, 16384, 0, api.OK},
		{api.IQ15, 16, 65535, 16385, 65535, api.OK},
		{api.IQ15, 16, 0, 32768, 0, api.OK},
		{api.IQ15, 16, 16384, 16384, 8192, api.OK},
	})
}

// P3.1: every operator of two against the document's words.
func TestTwoByTheWords(t *testing.T) {
	for _, w := range allWidths {
		l := some(w)
		for _, a := range l {
			for _, b := range l {
				for op := firstTwo; op <= lastTwo; op++ {
					n, e := ints.Two(op, w, a, b)
					if want, err := wantTwo(op, w, a, b); n != want || e != err {
						t.Fatalf("Two(%d, %d, %d, %d) = %d, %v; want %d, %v", op, w, a, b, n, e, want, err)
					}
				}
			}
		}
	}
}

// P3.1: operators of one, by hand.
func TestOneByHand(t *testing.T) {
	type row struct {
		op   api.IntOp
		w    int
		a, n uint64
	}
	l := []row{{api.IClz, 64, 1, 63}, {api.ICtz, 32, 0, 32}, {api.IAbs, 8, 128, 128}}
	for _, w := range allWidths {
		high, all, u := highest(w), top(w), uint64(w)
		l = append(l, []row{
			{api.IClz, w, 0, u}, {api.IClz, w, 1, u - 1}, {api.IClz, w, high - 1, 1}, {api.IClz, w, high, 0}, {api.IClz, w, all, 0},
			{api.ICtz, w, 0, u}, {api.ICtz, w, 1, 0}, {api.ICtz, w, high - 1, 0}, {api.ICtz, w, high, u - 1}, {api.ICtz, w, all, 0},
			{api.IPopcnt, w, 0, 0}, {api.IPopcnt, w, 1, 1}, {api.IPopcnt, w, high - 1, u - 1}, {api.IPopcnt, w, high, 1}, {api.IPopcnt, w, all, u},
			{api.IAbs, w, 0, 0}, {api.IAbs, w, 1, 1}, {api.IAbs, w, high - 1, high - 1}, {api.IAbs, w, high, high}, {api.IAbs, w, high + 1, high - 1}, {api.IAbs, w, all, 1},
			{api.INeg, w, 0, 0}, {api.INeg, w, 1, all}, {api.INeg, w, high - 1, high + 1}, {api.INeg, w, high, high}, {api.INeg, w, all, 1},
			{api.INot, w, 0, all}, {api.INot, w, 1, all - 1}, {api.INot, w, high - 1, high}, {api.INot, w, high, high - 1}, {api.INot, w, all, 0},
		}...)
	}
	for _, c := range l {
		if n, e := ints.One(c.op, c.w, c.a); n != c.n || e != api.OK {
			t.Errorf("One(%d, %d, %d) = %d, %v; want %d", c.op, c.w, c.a, n, e, c.n)
		}
	}
}

// P3.1: every operator of one against the document's words.
func TestOneByTheWords(t *testing.T) {
	for _, w := range allWidths {
		for _, a := range some(w) {
			for op := firstOne; op <= lastOne; op++ {
				n, e := ints.One(op, w, a)
				if want := wantOne(op, w, a); n != want || e != api.OK {
					t.Fatalf("One(%d, %d, %d) = %d, %v; want %d", op, w, a, n, e, want)
				}
			}
		}
	}
}

// P3.1: comparisons, by hand: the operators that hold of each pair.
func TestThanByHand(t *testing.T) {
	for _, w := range allWidths {
		high, all := highest(w), top(w)
		for _, c := range []struct {
			a, b uint64
			hold []api.IntOp
		}{
			{0, 0, []api.IntOp{api.IEq, api.ILeU, api.ILeS, api.IGeU, api.IGeS}},
			{all, all, []api.IntOp{api.IEq, api.ILeU, api.ILeS, api.IGeU, api.IGeS}},
			{all, 0, []api.IntOp{api.INe, api.ILtS, api.ILeS, api.IGtU, api.IGeU}},
			{0, 1, []api.IntOp{api.INe, api.ILtU, api.ILtS, api.ILeU, api.ILeS}},
			{high - 1, high, []api.IntOp{api.INe, api.ILtU, api.ILeU, api.IGtS, api.IGeS}},
			{all, high, []api.IntOp{api.INe, api.IGtU, api.IGeU, api.IGtS, api.IGeS}},
		} {
			want := map[api.IntOp]bool{}
			for _, op := range c.hold {
				want[op] = true
			}
			for op := firstThan; op <= lastThan; op++ {
				if is, e := ints.Than(op, w, c.a, c.b); is != want[op] || e != api.OK {
					t.Errorf("Than(%d, %d, %d, %d) = %v, %v", op, w, c.a, c.b, is, e)
				}
			}
		}
	}
}

// P3.1: every comparison against the document's words.
func TestThanByTheWords(t *testing.T) {
	for _, w := range allWidths {
		l := some(w)
		for _, a := range l {
			for _, b := range l {
				for op := firstThan; op <= lastThan; op++ {
					is, e := ints.Than(op, w, a, b)
					if want := wantThan(op, w, a, b); is != want || e != api.OK {
						t.Fatalf("Than(%d, %d, %d, %d) = %v, %v; want %v", op, w, a, b, is, e, want)
					}
				}
			}
		}
	}
}

type widthCase struct {
	from, to int
	signed   bool
	a, n     uint64
	e        api.Errno
}

// P3.2: Extend, by hand.
func TestExtendByHand(t *testing.T) {
	l := []widthCase{{8, 32, true, 255, 4294967295, api.OK}}
	for i, from := range allWidths {
		high, all := highest(from), top(from)
		for _, to := range allWidths[i:] {
			l = append(l, []widthCase{
				{from, to, true, 0, 0, api.OK}, {from, to, false, 0, 0, api.OK},
				{from, to, true, high - 1, high - 1, api.OK}, {from, to, false, high - 1, high - 1, api.OK},
				{from, to, true, high, top(to) - high + 1, api.OK}, {from, to, false, high, high, api.OK},
				{from, to, true, all, top(to), api.OK}, {from, to, false, all, all, api.OK},
			}...)
		}
		for _, to := range allWidths[:i] {
			for _, a := range few(from) {
				l = append(l, widthCase{from, to, true, a, 0, api.ErrArg}, widthCase{from, to, false, a, 0, api.ErrArg})
			}
		}
	}
	for _, c := range l {
		if n, e := ints.Extend(c.from, c.to, c.signed, c.a); n != c.n || e != c.e {
			t.Errorf("Extend(%d, %d, %v, %d) = %d, %v; want %d, %v", c.from, c.to, c.signed, c.a, n, e, c.n, c.e)
		}
	}
}

// P3.2: Narrow, by hand: at the bounds and beyond them.
func TestNarrowByHand(t *testing.T) {
	l := []widthCase{{16, 8, true, 65000, 128, api.OK}, {16, 8, false, 65000, 0, api.OK}, {16, 8, false, 300, 255, api.OK}}
	for i, from := range allWidths {
		high, all := highest(from), top(from)
		for _, to := range allWidths[:i] {
			h := highest(to)
			l = append(l, []widthCase{
				{from, to, true, h - 1, h - 1, api.OK}, {from, to, true, h, h - 1, api.OK}, {from, to, true, high - 1, h - 1, api.OK},
				{from, to, true, all - h + 1, h, api.OK}, {from, to, true, all - h, h, api.OK}, {from, to, true, high, h, api.OK},
				{from, to, true, all, top(to), api.OK}, {from, to, true, 0, 0, api.OK},
				{from, to, false, top(to), top(to), api.OK}, {from, to, false, top(to) + 1, top(to), api.OK}, {from, to, false, high - 1, top(to), api.OK},
				{from, to, false, 0, 0, api.OK}, {from, to, false, all, 0, api.OK}, {from, to, false, high, 0, api.OK}, {from, to, false, h, h, api.OK},
			}...)
		}
		for _, to := range allWidths[i:] {
			for _, a := range few(from) {
				l = append(l, widthCase{from, to, true, a, 0, api.ErrArg}, widthCase{from, to, false, a, 0, api.ErrArg})
			}
		}
	}
	for _, c := range l {
		if n, e := ints.Narrow(c.from, c.to, c.signed, c.a); n != c.n || e != c.e {
			t.Errorf("Narrow(%d, %d, %v, %d) = %d, %v; want %d, %v", c.from, c.to, c.signed, c.a, n, e, c.n, c.e)
		}
	}
}

// P3.2: Extend and Narrow against the document's words, of each two widths.
func TestExtendNarrowByTheWords(t *testing.T) {
	for _, from := range allWidths {
		for _, to := range allWidths {
			for _, a := range some(from) {
				for _, signed := range []bool{false, true} {
					holdWidths(t, from, to, signed, a)
				}
			}
		}
	}
}

func holdWidths(t *testing.T, from, to int, signed bool, a uint64) {
	t.Helper()
	x, err := plain(a), api.OK
	if signed {
		x = worth(from, a)
	}
	want := number(to, x)
	if to < from {
		want, err = 0, api.ErrArg
	}
	if n, e := ints.Extend(from, to, signed, a); n != want || e != err {
		t.Fatalf("Extend(%d, %d, %v, %d) = %d, %v; want %d, %v", from, to, signed, a, n, e, want, err)
	}
	x, err = holdU(to, worth(from, a)), api.OK
	if signed {
		x = holdS(to, worth(from, a))
	}
	want = number(to, x)
	if to >= from {
		want, err = 0, api.ErrArg
	}
	if n, e := ints.Narrow(from, to, signed, a); n != want || e != err {
		t.Fatalf("Narrow(%d, %d, %v, %d) = %d, %v; want %d, %v", from, to, signed, a, n, e, want, err)
	}
}

// refused holds that Two and Than answer ErrArg and nothing else, whatever the operator.
func refused(t *testing.T, w int, a, b uint64) {
	t.Helper()
	for op := range 256 {
		if n, e := ints.Two(api.IntOp(op), w, a, b); n != 0 || e != api.ErrArg {
			t.Fatalf("Two(%d, %d, %d, %d) = %d, %v", op, w, a, b, n, e)
		}
		if is, e := ints.Than(api.IntOp(op), w, a, b); is || e != api.ErrArg {
			t.Fatalf("Than(%d, %d, %d, %d) = %v, %v", op, w, a, b, is, e)
		}
	}
}

// refusedAlone holds that One, Extend and Narrow answer ErrArg and nothing else, too.
func refusedAlone(t *testing.T, w int, a uint64) {
	t.Helper()
	for op := range 256 {
		if n, e := ints.One(api.IntOp(op), w, a); n != 0 || e != api.ErrArg {
			t.Fatalf("One(%d, %d, %d) = %d, %v", op, w, a, n, e)
		}
	}
	for _, to := range append([]int{w}, allWidths...) {
		refusedWidths(t, w, to, a)
	}
}

func refusedWidths(t *testing.T, from, to int, a uint64) {
	t.Helper()
	for _, signed := range []bool{false, true} {
		if n, e := ints.Extend(from, to, signed, a); n != 0 || e != api.ErrArg {
			t.Fatalf("Extend(%d, %d, %v, %d) = %d, %v", from, to, signed, a, n, e)
		}
		if n, e := ints.Narrow(from, to, signed, a); n != 0 || e != api.ErrArg {
			t.Fatalf("Narrow(%d, %d, %v, %d) = %d, %v", from, to, signed, a, n, e)
		}
	}
}

// noWidths are numbers that are no width: all near them, and some far off.
func noWidths() []int {
	l := []int{math.MinInt, math.MinInt + 8, math.MaxInt, math.MaxInt - 7, 1<<32 + 8, 1<<32 + 64, -(1 << 32) + 32, 256, 512, 1 << 16}
	for w := -130; w <= 130; w++ {
		if w != 8 && w != 16 && w != 32 && w != 64 {
			l = append(l, w)
		}
	}
	return l
}

// P3.1, P3.2: a width that is none, in each place.
func TestNoWidths(t *testing.T) {
	for _, w := range noWidths() {
		for _, a := range []uint64{0, 1, 255, math.MaxUint64} {
			refused(t, w, a, 0)
			refused(t, w, a, 1)
			refusedAlone(t, w, a)
			for _, from := range allWidths {
				refusedWidths(t, from, w, a&top(from))
			}
		}
	}
}

// P3.1, P3.2: a number that is none of its width, ahead of a divisor 0 and of what would be held.
func TestNoNumbers(t *testing.T) {
	for _, w := range []int{8, 16, 32} {
		for _, bad := range []uint64{top(w) + 1, top(w) + 2, 1<<(w+1) - 1, 1 << 63, math.MaxUint64 - top(w), math.MaxUint64 - 1, math.MaxUint64} {
			for _, good := range few(w) {
				refused(t, w, bad, good)
				refused(t, w, good, bad)
			}
			refused(t, w, bad, bad)
			refusedAlone(t, w, bad)
		}
	}
}

// P3.1: an operator that is none, or one of another kind; IQ15 of another width.
func TestNoOperators(t *testing.T) {
	for _, w := range allWidths {
		for _, a := range few(w) {
			for _, b := range few(w) {
				for i := range 256 {
					holdOperator(t, api.IntOp(i), w, a, b)
				}
			}
		}
	}
}

func holdOperator(t *testing.T, op api.IntOp, w int, a, b uint64) {
	t.Helper()
	isTwo := op >= firstTwo && op <= lastTwo && (op != api.IQ15 || w == 16)
	if n, e := ints.Two(op, w, a, b); (e == api.ErrArg) == isTwo || e != api.OK && n != 0 {
		t.Fatalf("Two(%d, %d, %d, %d) = %d, %v", op, w, a, b, n, e)
	}
	isOne := op >= firstOne && op <= lastOne
	if n, e := ints.One(op, w, a); (e == api.ErrArg) == isOne || e != api.OK && n != 0 {
		t.Fatalf("One(%d, %d, %d) = %d, %v", op, w, a, n, e)
	}
	isThan := op >= firstThan && op <= lastThan
	if is, e := ints.Than(op, w, a, b); (e == api.ErrArg) == isThan || e != api.OK && is {
		t.Fatalf("Than(%d, %d, %d, %d) = %v, %v", op, w, a, b, is, e)
	}
}

// P3.3: sums and products are what they are in any order and brackets.
func TestOrderAndBrackets(t *testing.T) {
	for _, w := range allWidths {
		for _, op := range []api.IntOp{api.IAdd, api.IMul} {
			for _, a := range few(w) {
				for _, b := range few(w) {
					if two(t, op, w, a, b) != two(t, op, w, b, a) {
						t.Fatalf("%d of width %d: %d and %d", op, w, a, b)
					}
					for _, c := range few(w) {
						if two(t, op, w, two(t, op, w, a, b), c) != two(t, op, w, a, two(t, op, w, b, c)) {
							t.Fatalf("%d of width %d: %d, %d and %d", op, w, a, b, c)
						}
					}
				}
			}
		}
	}
}

// P3.3: a quotient times b and what is left together are a; turned up and down by
// the same it is the same; the middle is between the two.
func TestWhatFollowsOfTwo(t *testing.T) {
	for _, w := range allWidths {
		for _, a := range some(w) {
			for _, b := range some(w) {
				holdParts(t, api.IDivU, api.IRemU, w, a, b)
				holdParts(t, api.IDivS, api.IRemS, w, a, b)
				if two(t, api.IRotr, w, two(t, api.IRotl, w, a, b), b) != a || two(t, api.IRotl, w, two(t, api.IRotr, w, a, b), b) != a {
					t.Fatalf("width %d: %d turned by %d", w, a, b)
				}
				if n := two(t, api.IAvgU, w, a, b); n < two(t, api.IMinU, w, a, b) || n > two(t, api.IMaxU, w, a, b) {
					t.Fatalf("width %d: %d is the middle of %d and %d", w, n, a, b)
				}
			}
		}
	}
}

func holdParts(t *testing.T, div, rem api.IntOp, w int, a, b uint64) {
	t.Helper()
	q, e := ints.Two(div, w, a, b)
	if e != api.OK {
		return // TestTwoByTheWords says where
	}
	if n := two(t, api.IAdd, w, two(t, api.IMul, w, q, b), two(t, rem, w, a, b)); n != a {
		t.Fatalf("%d of width %d: %d by %d is %d, together %d", div, w, a, b, q, n)
	}
}

// P3.3: of a power of two IMul is IShl; INeg is INot and 1 together; IClz, ICtz
// and IPopcnt together are at most w, but of 0.
func TestWhatFollowsOfOne(t *testing.T) {
	for _, w := range allWidths {
		for _, a := range some(w) {
			for k := range uint64(w) {
				if m, s := two(t, api.IMul, w, a, 1<<k), two(t, api.IShl, w, a, k); m != s {
					t.Fatalf("width %d: %d times 2^%d is %d, moved %d", w, a, k, m, s)
				}
			}
			if n, m := one(t, api.INeg, w, a), two(t, api.IAdd, w, one(t, api.INot, w, a), 1); n != m {
				t.Fatalf("width %d: INeg(%d) = %d, INot and 1 = %d", w, a, n, m)
			}
			sum := one(t, api.IClz, w, a) + one(t, api.ICtz, w, a) + one(t, api.IPopcnt, w, a)
			if a != 0 && sum > uint64(w) || a == 0 && sum != uint64(2*w) {
				t.Fatalf("width %d: the bits of %d are %d together", w, a, sum)
			}
		}
	}
}
