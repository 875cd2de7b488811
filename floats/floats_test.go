package floats_test

import (
	"math"
	"math/big"
	"testing"

	"jacquard/api"
	"jacquard/floats"
)

var allWidths = []int{32, 64}

// The bounds of the kinds of operators, as api numbers them.
const (
	firstTwo, lastTwo   = api.FAdd, api.FPmax
	firstOne, lastOne   = api.FAbs, api.FNearest
	firstThan, lastThan = api.FEq, api.FGe
)

// fraction is how many bits of a float of width w are its fraction.
func fraction(w int) int {
	if w == 32 {
		return 23
	}
	return 52
}

// bias is the exponent of 1, as bits have it.
func bias(w int) int {
	return 1<<(w-fraction(w)-2) - 1
}

// sign is the float of width w whose sign alone is 1: -0.
func sign(w int) uint64 {
	return 1 << (w - 1)
}

// all is the greatest row of bits of width w.
func all(w int) uint64 {
	return math.MaxUint64 >> (64 - w)
}

// endless is what is beyond all numbers: the exponent all ones, the fraction 0.
func endless(w int) uint64 {
	return sign(w) - 1<<fraction(w)
}

// oneNaN is the document's.
func oneNaN(w int) uint64 {
	if w == 32 {
		return 0x7fc00000
	}
	return 0x7ff8000000000000
}

func isNone(w int, a uint64) bool {
	exponent := a >> fraction(w) & (1<<(w-fraction(w)-1) - 1)
	return exponent == 1<<(w-fraction(w)-1)-1 && a<<(64-fraction(w)) != 0
}

func isEndless(w int, a uint64) bool {
	return a&^sign(w) == endless(w)
}

func isZero(w int, a uint64) bool {
	return a&^sign(w) == 0
}

func power(n int) *big.Rat {
	p := new(big.Rat).SetInt(new(big.Int).Lsh(big.NewInt(1), uint(max(n, -n))))
	if n < 0 {
		p.Inv(p)
	}
	return p
}

// exact is the number that a is; of what is beyond all numbers it is one that is
// just that much greater than the greatest one.
func exact(w int, a uint64) *big.Rat {
	low := a & (1<<fraction(w) - 1)
	e := int(a >> fraction(w) & (1<<(w-fraction(w)-1) - 1))
	if e == 0 {
		e = 1
	} else {
		low |= 1 << fraction(w)
	}
	x := new(big.Rat).SetInt(new(big.Int).SetUint64(low))
	x.Mul(x, power(e-bias(w)-fraction(w)))
	if a&sign(w) != 0 {
		x.Neg(x)
	}
	return x
}

// toEven is x, which is not below 0, rounded to the nearest whole number, of two to the even one.
func toEven(x *big.Rat) *big.Int {
	q, r := new(big.Int).QuoRem(x.Num(), x.Denom(), new(big.Int))
	c := r.Lsh(r, 1).Cmp(x.Denom())
	if c > 0 || c == 0 && q.Bit(0) == 1 {
		q.Add(q, big.NewInt(1))
	}
	return q
}

// nearest is the float of width w that is nearest to x, of two the one whose lowest
// bit is 0; s is the sign that a 0 has.
func nearest(w int, x *big.Rat, s uint64) uint64 {
	if x.Sign() > 0 {
		s = 0
	}
	if x.Sign() < 0 {
		s = sign(w)
	}
	x = new(big.Rat).Abs(x)
	if x.Sign() == 0 {
		return s
	}
	// The exponent e of x, or the least that there is: 2^e is not above x.
	e := x.Num().BitLen() - x.Denom().BitLen()
	if x.Cmp(power(e)) < 0 {
		e--
	}
	if e > bias(w) {
		return s | endless(w)
	}
	e = max(e, 1-bias(w))
	q := toEven(x.Mul(x, power(fraction(w)-e))).Uint64()
	// A fraction that is rounded up to 2 goes over into the exponent, as bits do.
	return s | uint64(e-1+bias(w))<<fraction(w) + q
}

// wantSum is what IEEE 754 has of a sum.
func wantSum(w int, a, b uint64) uint64 {
	switch {
	case isEndless(w, a) && isEndless(w, b) && a != b:
		return oneNaN(w)
	case isEndless(w, a):
		return a
	case isEndless(w, b):
		return b
	}
	return nearest(w, new(big.Rat).Add(exact(w, a), exact(w, b)), a&b&sign(w))
}

// wantProduct is what IEEE 754 has of a product.
func wantProduct(w int, a, b uint64) uint64 {
	s := (a ^ b) & sign(w)
	if isEndless(w, a) || isEndless(w, b) {
		if isZero(w, a) || isZero(w, b) {
			return oneNaN(w)
		}
		return s | endless(w)
	}
	return nearest(w, new(big.Rat).Mul(exact(w, a), exact(w, b)), s)
}

// wantQuotient is what IEEE 754 has of a quotient.
func wantQuotient(w int, a, b uint64) uint64 {
	s := (a ^ b) & sign(w)
	switch {
	case isEndless(w, a) && isEndless(w, b), isZero(w, a) && isZero(w, b):
		return oneNaN(w)
	case isEndless(w, a), isZero(w, b):
		return s | endless(w)
	case isEndless(w, b):
		return s
	}
	return nearest(w, new(big.Rat).Quo(exact(w, a), exact(w, b)), s)
}

// wantTwo is what the document says of an operator of two.
func wantTwo(op api.FltOp, w int, a, b uint64) uint64 {
	switch op {
	case api.FCopysign:
		return a&^sign(w) + b&sign(w)
	case api.FPmin:
		if wantThan(api.FLt, w, b, a) {
			return b
		}
		return a
	case api.FPmax:
		if wantThan(api.FLt, w, a, b) {
			return b
		}
		return a
	}
	if isNone(w, a) || isNone(w, b) {
		return oneNaN(w)
	}
	switch op {
	case api.FAdd:
		return wantSum(w, a, b)
	case api.FSub:
		return wantSum(w, a, b^sign(w))
	case api.FMul:
		return wantProduct(w, a, b)
	case api.FDiv:
		return wantQuotient(w, a, b)
	}
	c := exact(w, a).Cmp(exact(w, b))
	if c == 0 {
		c = int(b>>(w-1)) - int(a>>(w-1)) // -0 is less than 0
	}
	if op == api.FMin && c < 0 || op == api.FMax && c > 0 {
		return a
	}
	return b
}

// wantRoot is the square root of a, a number not below 0.
func wantRoot(w int, a uint64) uint64 {
	x := exact(w, a)
	// The root of x times 2^2n, cut to a whole number, has more bits than any float;
	// a bit behind them tells whether something was cut off.
	n := 2 * bias(w)
	x.Mul(x, power(2*n))
	r := new(big.Int).Sqrt(x.Num())
	off := new(big.Int).Mul(r, r).Cmp(x.Num()) != 0
	r.Lsh(r, 1)
	if off {
		r.SetBit(r, 0, 1)
	}
	return nearest(w, new(big.Rat).Mul(new(big.Rat).SetInt(r), power(-n-1)), 0)
}

// wantWhole is the number a rounded to a whole number.
func wantWhole(op api.FltOp, w int, a uint64) uint64 {
	x, n := exact(w, a), new(big.Int)
	switch op {
	case api.FFloor:
		n.Div(x.Num(), x.Denom()) // Div of a divisor above 0 rounds down
	case api.FCeil:
		n.Neg(n.Div(n.Neg(x.Num()), x.Denom()))
	case api.FTrunc:
		n.Quo(x.Num(), x.Denom())
	case api.FNearest:
		n = toEven(new(big.Rat).Abs(x))
		if x.Sign() < 0 {
			n.Neg(n)
		}
	}
	return nearest(w, new(big.Rat).SetInt(n), a&sign(w))
}

// wantOne is what the document says of an operator of one.
func wantOne(op api.FltOp, w int, a uint64) uint64 {
	switch {
	case op == api.FAbs:
		return a % sign(w)
	case op == api.FNeg:
		return (a + sign(w)) & all(w)
	case isNone(w, a):
		return oneNaN(w)
	case isZero(w, a):
		return a
	case op == api.FSqrt && a >= sign(w):
		return oneNaN(w)
	case isEndless(w, a):
		return a
	case op == api.FSqrt:
		return wantRoot(w, a)
	}
	return wantWhole(op, w, a)
}

// wantThan is what the document says of a comparison.
func wantThan(op api.FltOp, w int, a, b uint64) bool {
	if isNone(w, a) || isNone(w, b) {
		return op == api.FNe
	}
	c := exact(w, a).Cmp(exact(w, b))
	switch op {
	case api.FEq:
		return c == 0
	case api.FNe:
		return c != 0
	case api.FLt:
		return c < 0
	case api.FGt:
		return c > 0
	case api.FLe:
		return c <= 0
	case api.FGe:
		return c >= 0
	}
	panic(op)
}

// of is x as a float of width w; the tests below write whole numbers and halves so.
func of(w int, x float64) uint64 {
	if w == 32 {
		return uint64(math.Float32bits(float32(x)))
	}
	return math.Float64bits(x)
}

// nones are floats of width w that are no number: of every shape, with both signs.
func nones(w int) []uint64 {
	var l []uint64
	quiet := uint64(1) << (fraction(w) - 1)
	for _, f := range []uint64{1, 2, 0x1234, quiet - 1, quiet, quiet + 1, quiet | quiet>>1, 2*quiet - 2, 2*quiet - 1} {
		l = append(l, endless(w)|f, sign(w)|endless(w)|f)
	}
	return l
}

// edges are numbers of width w, with both signs: 0, the least and the greatest ones,
// those whose exponent is 0, what is beyond all, halves and their neighbours.
func edges(w int) []uint64 {
	normal := uint64(1) << fraction(w)
	l := []uint64{0, 1, 2, 3, normal / 2, normal - 2, normal - 1, normal, normal + 1, 2*normal - 1, 2 * normal, endless(w) - normal, endless(w) - 2, endless(w) - 1, endless(w)}
	for _, x := range []float64{0.25, 0.5, 0.75, 1, 1.5, 2, 2.5, 3, 3.5, 4, 4.5, 10} {
		l = append(l, of(w, x)-1, of(w, x), of(w, x)+1)
	}
	for _, e := range []int{fraction(w) - 1, fraction(w), fraction(w) + 1} {
		x := of(w, math.Ldexp(1, e))
		l = append(l, x-2, x-1, x, x+1, x+2, x+3)
	}
	for _, a := range l {
		l = append(l, a|sign(w))
	}
	return l
}

// mixed are numbers of width w that follow no rule, half of them with exponents near that of 1.
func mixed(w, count int) []uint64 {
	var l []uint64
	n := uint64(0x9e3779b97f4a7c15)
	for range count {
		n = n*6364136223846793005 + 1442695040888963407
		a := n >> (64 - w)
		near := uint64(bias(w)-2+int(n%uint64(fraction(w)+8))) << fraction(w)
		l = append(l, a, a&(1<<fraction(w)-1)|a&sign(w)|near)
	}
	return l
}

// some are floats of width w: edges, what is no number, and others.
func some(w int) []uint64 {
	return append(append(edges(w), nones(w)...), mixed(w, 40)...)
}

// numbers are those of some that are numbers, beyond all or not.
func numbers(w int) []uint64 {
	var l []uint64
	for _, a := range some(w) {
		if !isNone(w, a) {
			l = append(l, a)
		}
	}
	return l
}

// two is Two where no error is looked for.
func two(t *testing.T, op api.FltOp, w int, a, b uint64) uint64 {
	t.Helper()
	n, e := floats.Two(op, w, a, b)
	if e != api.OK {
		t.Fatalf("Two(%d, %d, %x, %x) = %v", op, w, a, b, e)
	}
	return n
}

// one is One where no error is looked for.
func one(t *testing.T, op api.FltOp, w int, a uint64) uint64 {
	t.Helper()
	n, e := floats.One(op, w, a)
	if e != api.OK {
		t.Fatalf("One(%d, %d, %x) = %v", op, w, a, e)
	}
	return n
}

// than is Than where no error is looked for.
func than(t *testing.T, op api.FltOp, w int, a, b uint64) bool {
	t.Helper()
	is, e := floats.Than(op, w, a, b)
	if e != api.OK {
		t.Fatalf("Than(%d, %d, %x, %x) = %v", op, w, a, b, e)
	}
	return is
}

type twoCase struct {
	op   api.FltOp
	w    int
	a, b uint64
	n    uint64
	e    api.Errno
}

func holdTwo(t *testing.T, l []twoCase) {
	t.Helper()
	for _, c := range l {
		if n, e := floats.Two(c.op, c.w, c.a, c.b); n != c.n || e != c.e {
			t.Errorf("Two(%d, %d, %x, %x) = %x, %v; want %x, %v", c.op, c.w, c.a, c.b, n, e, c.n, c.e)
		}
	}
}

type oneCase struct {
	op   api.FltOp
	w    int
	a, n uint64
	e    api.Errno
}

func holdOne(t *testing.T, l []oneCase) {
	t.Helper()
	for _, c := range l {
		if n, e := floats.One(c.op, c.w, c.a); n != c.n || e != c.e {
			t.Errorf("One(%d, %d, %x) = %x, %v; want %x, %v", c.op, c.w, c.a, n, e, c.n, c.e)
		}
	}
}

// P4.1: the document's examples.
func TestExamples(t *testing.T) {
	holdTwo(t, []twoCase{
		{api.FAdd, 32, 0x3f800000, 0x33800000, 0x3f800000, api.OK},
		{api.FAdd, 32, 0x3f800001, 0x33800000, 0x3f800002, api.OK},
		{api.FDiv, 64, 0, 0, 0x7ff8000000000000, api.OK},
		{api.FMin, 32, 0x80000000, 0, 0x80000000, api.OK},
		{api.FMax, 32, 0x7f800001, 0, 0x7fc00000, api.OK},
		{api.FPmin, 32, 0x3f800000, 0x7f800001, 0x3f800000, api.OK},
		{api.FPmax, 32, 0x7f800001, 0x3f800000, 0x7f800001, api.OK},
		{api.FCopysign, 32, 0x7f800001, 0x80000000, 0xff800001, api.OK},
		{api.FAdd, 16, 0, 0, 0, api.ErrArg},
	})
	holdOne(t, []oneCase{
		{api.FNearest, 32, 0x40200000, 0x40000000, api.OK},
		{api.FNearest, 32, 0xbf000000, 0x80000000, api.OK},
		{api.FCeil, 64, 0xbfe0000000000000, 0x8000000000000000, api.OK},
		{api.FSqrt, 32, 0x80000000, 0x80000000, api.OK},
		{api.FSqrt, 32, 0xbf800000, 0x7fc00000, api.OK},
		{api.FNeg, 32, 0x7f800001, 0xff800001, api.OK},
		{api.FAbs, 32, 0x100000000, 0, api.ErrArg},
	})
	if !than(t, api.FNe, 32, 0x7fc00000, 0x7fc00000) || !than(t, api.FEq, 32, 0, 0x80000000) {
		t.Error("Than")
	}
}

// P4.1: sums, differences, products and quotients of ordinary numbers, and those that
// lie just between two floats, by hand.
func TestTwoReckons(t *testing.T) {
	for _, w := range allWidths {
		minus := sign(w)
		f := func(x float64) uint64 { return of(w, x) }
		step := math.Ldexp(1, -fraction(w)) // from 1 to the float above it
		holdTwo(t, []twoCase{
			{api.FAdd, w, f(1.5), f(2.25), f(3.75), api.OK},
			{api.FSub, w, f(1.5), f(2.25), f(-0.75), api.OK},
			{api.FMul, w, f(1.5), f(-2.25), f(-3.375), api.OK},
			{api.FDiv, w, f(7), f(-2), f(-3.5), api.OK},
			{api.FAdd, w, f(1), f(step / 2), f(1), api.OK},
			{api.FAdd, w, f(1) + 1, f(step / 2), f(1) + 2, api.OK},
			{api.FAdd, w, f(1), f(step/2) + 1, f(1) + 1, api.OK},
			{api.FAdd, w, f(1) + 1, f(step/2) - 1, f(1) + 1, api.OK},
			{api.FAdd, w, f(-1), f(-step / 2), f(-1), api.OK},
			{api.FAdd, w, f(-1) + 1, f(-step / 2), f(-1) + 2, api.OK},
			{api.FSub, w, f(1), f(step / 4), f(1), api.OK},
			{api.FSub, w, f(1), f(step/4) + 1, f(1) - 1, api.OK},
			{api.FSub, w, f(1) - 1, f(step / 4), f(1) - 2, api.OK},
			{api.FMul, w, f(1) + 1, f(1.5), f(1.5) + 2, api.OK},
			{api.FMul, w, f(1) + 3, f(1.5), f(1.5) + 4, api.OK},
			{api.FMul, w, 1, f(0.5), 0, api.OK},
			{api.FMul, w, 3, f(0.5), 2, api.OK},
			{api.FMul, w, 1, f(0.5) + 1, 1, api.OK},
			{api.FMul, w, 1, f(-0.5), minus, api.OK},
			{api.FDiv, w, 1, f(2), 0, api.OK},
			{api.FDiv, w, 3, f(2), 2, api.OK},
			{api.FDiv, w, 5, f(-2), minus | 2, api.OK},
		})
	}
	holdTwo(t, []twoCase{
		{api.FDiv, 32, 0x3f800000, 0x40400000, 0x3eaaaaab, api.OK},
		{api.FDiv, 64, 0x3ff0000000000000, 0x4008000000000000, 0x3fd5555555555555, api.OK},
		{api.FAdd, 64, 0x3fb999999999999a, 0x3fc999999999999a, 0x3fd3333333333334, api.OK},
		{api.FMul, 32, 0x3dcccccd, 0x3dcccccd, 0x3c23d70b, api.OK},
	})
}

// P4.1: the least and the greatest numbers, what is beyond all, 0 and -0, by hand.
func TestTwoAtTheEdges(t *testing.T) {
	for _, w := range allWidths {
		minus, inf, none := sign(w), endless(w), oneNaN(w)
		normal, most, one := uint64(1)<<fraction(w), inf-1, of(w, 1)
		huge := of(w, math.Ldexp(1, bias(w)-fraction(w)-1)) // half of what the greatest one and the next would differ by
		holdTwo(t, []twoCase{
			{api.FAdd, w, most, huge - 1, most, api.OK},
			{api.FAdd, w, most, huge, inf, api.OK},
			{api.FSub, w, minus | most, huge, minus | inf, api.OK},
			{api.FMul, w, most, of(w, 2), inf, api.OK},
			{api.FDiv, w, most, of(w, -0.5), minus | inf, api.OK},
			{api.FAdd, w, normal - 1, 1, normal, api.OK},
			{api.FSub, w, normal, 1, normal - 1, api.OK},
			{api.FSub, w, normal + 1, normal, 1, api.OK},
			{api.FMul, w, normal, of(w, 0.5), normal / 2, api.OK},
			{api.FMul, w, 1, 1, 0, api.OK},
			{api.FDiv, w, normal - 1, normal - 1, one, api.OK},
			{api.FAdd, w, inf, minus | inf, none, api.OK},
			{api.FSub, w, inf, inf, none, api.OK},
			{api.FAdd, w, inf, inf, inf, api.OK},
			{api.FSub, w, minus | inf, inf, minus | inf, api.OK},
			{api.FAdd, w, minus | inf, most, minus | inf, api.OK},
			{api.FMul, w, inf, 0, none, api.OK},
			{api.FMul, w, minus, inf, none, api.OK},
			{api.FMul, w, minus | inf, inf, minus | inf, api.OK},
			{api.FMul, w, minus | inf, minus | 1, inf, api.OK},
			{api.FDiv, w, inf, inf, none, api.OK},
			{api.FDiv, w, inf, minus, minus | inf, api.OK},
			{api.FDiv, w, one, minus | inf, minus, api.OK},
			{api.FDiv, w, 0, minus, none, api.OK},
			{api.FDiv, w, one, 0, inf, api.OK},
			{api.FDiv, w, one, minus, minus | inf, api.OK},
			{api.FDiv, w, minus, one, minus, api.OK},
			{api.FAdd, w, 0, minus, 0, api.OK},
			{api.FAdd, w, minus, minus, minus, api.OK},
			{api.FSub, w, minus, 0, minus, api.OK},
			{api.FSub, w, 0, 0, 0, api.OK},
			{api.FSub, w, one, one, 0, api.OK},
			{api.FMul, w, 0, minus, minus, api.OK},
			{api.FMul, w, minus, minus, 0, api.OK},
		})
	}
}

// P4.1: the lesser and the greater, by hand: 0 and -0 in both places, what is beyond all.
func TestTwoLesserGreater(t *testing.T) {
	for _, w := range allWidths {
		minus, inf, one := sign(w), endless(w), of(w, 1)
		for _, c := range []struct{ low, high uint64 }{
			{minus, 0}, {0, 1}, {minus | 1, minus}, {minus | one, one}, {one, one + 1}, {minus | one + 1, minus | one},
			{inf - 1, inf}, {minus | inf, inf}, {minus | inf, minus | inf - 1}, {0, 0}, {minus, minus}, {inf, inf},
		} {
			holdTwo(t, []twoCase{
				{api.FMin, w, c.low, c.high, c.low, api.OK},
				{api.FMin, w, c.high, c.low, c.low, api.OK},
				{api.FMax, w, c.low, c.high, c.high, api.OK},
				{api.FMax, w, c.high, c.low, c.high, api.OK},
			})
		}
		// FPmin and FPmax keep a, where neither is less.
		holdTwo(t, []twoCase{
			{api.FPmin, w, 0, minus, 0, api.OK}, {api.FPmin, w, minus, 0, minus, api.OK},
			{api.FPmax, w, 0, minus, 0, api.OK}, {api.FPmax, w, minus, 0, minus, api.OK},
			{api.FPmin, w, one, minus | one, minus | one, api.OK}, {api.FPmin, w, minus | one, one, minus | one, api.OK},
			{api.FPmax, w, one, minus | one, one, api.OK}, {api.FPmax, w, minus | one, one, one, api.OK},
			{api.FPmin, w, inf, 1, 1, api.OK}, {api.FPmax, w, minus | inf, minus | 1, minus | 1, api.OK},
			{api.FCopysign, w, one, minus, minus | one, api.OK}, {api.FCopysign, w, minus | one, 1, one, api.OK},
			{api.FCopysign, w, minus, minus | inf, minus, api.OK}, {api.FCopysign, w, minus | inf, 0, inf, api.OK},
		})
	}
}

// P4.1, P4.2: no numbers of every shape: which operators of two answer the one NaN, and
// which hand bits on as they are.
func TestTwoOfNoNumbers(t *testing.T) {
	for _, w := range allWidths {
		minus := sign(w)
		for _, none := range nones(w) {
			for _, b := range some(w) {
				for op := api.FAdd; op <= api.FMax; op++ {
					holdTwo(t, []twoCase{{op, w, none, b, oneNaN(w), api.OK}, {op, w, b, none, oneNaN(w), api.OK}})
				}
				for _, op := range []api.FltOp{api.FPmin, api.FPmax} {
					holdTwo(t, []twoCase{{op, w, none, b, none, api.OK}, {op, w, b, none, b, api.OK}})
				}
				holdTwo(t, []twoCase{
					{api.FCopysign, w, none, b, none&^minus | b&minus, api.OK},
					{api.FCopysign, w, b, none, b&^minus | none&minus, api.OK},
				})
			}
		}
	}
}

// P4.1: every operator of two against the document's words.
func TestTwoByTheWords(t *testing.T) {
	for _, w := range allWidths {
		l := some(w)
		for _, a := range l {
			for _, b := range l {
				for op := firstTwo; op <= lastTwo; op++ {
					if n, want := two(t, op, w, a, b), wantTwo(op, w, a, b); n != want {
						t.Fatalf("Two(%d, %d, %x, %x) = %x; want %x", op, w, a, b, n, want)
					}
				}
			}
		}
	}
}

// P4.1: rounded to whole numbers, by hand: halves and their neighbours, with both signs.
func TestOneWhole(t *testing.T) {
	for _, w := range allWidths {
		minus, inf := sign(w), endless(w)
		f := func(x float64) uint64 { return of(w, x) }
		large := math.Ldexp(1, fraction(w)-1) // from here on there are halves, from its double on none
		for _, c := range []struct {
			a                          uint64
			ceil, floor, trunc, nearly float64
		}{
			{f(0.5), 1, 0, 0, 0}, {f(0.5) - 1, 1, 0, 0, 0}, {f(0.5) + 1, 1, 0, 0, 1},
			{f(1.5), 2, 1, 1, 2}, {f(1.5) - 1, 2, 1, 1, 1}, {f(1.5) + 1, 2, 1, 1, 2},
			{f(2.5), 3, 2, 2, 2}, {f(2.5) - 1, 3, 2, 2, 2}, {f(2.5) + 1, 3, 2, 2, 3},
			{f(3.5), 4, 3, 3, 4}, {f(1) - 1, 1, 0, 0, 1}, {f(1) + 1, 2, 1, 1, 1},
			{f(1), 1, 1, 1, 1}, {1, 1, 0, 0, 0}, {1 << fraction(w), 1, 0, 0, 0},
			{f(large + 0.5), large + 1, large, large, large}, {f(large + 1.5), large + 2, large + 1, large + 1, large + 2},
			{f(2*large - 0.5), 2 * large, 2*large - 1, 2*large - 1, 2 * large}, {f(2*large + 1), 2*large + 1, 2*large + 1, 2*large + 1, 2*large + 1},
		} {
			// Below 0 all is as above it, but that up is down; of 0 the sign stays.
			holdOne(t, []oneCase{
				{api.FCeil, w, c.a, f(c.ceil), api.OK}, {api.FCeil, w, minus | c.a, minus | f(c.floor), api.OK},
				{api.FFloor, w, c.a, f(c.floor), api.OK}, {api.FFloor, w, minus | c.a, minus | f(c.ceil), api.OK},
				{api.FTrunc, w, c.a, f(c.trunc), api.OK}, {api.FTrunc, w, minus | c.a, minus | f(c.trunc), api.OK},
				{api.FNearest, w, c.a, f(c.nearly), api.OK}, {api.FNearest, w, minus | c.a, minus | f(c.nearly), api.OK},
			})
		}
		for _, op := range []api.FltOp{api.FCeil, api.FFloor, api.FTrunc, api.FNearest} {
			for _, a := range []uint64{0, inf - 1, inf} {
				holdOne(t, []oneCase{{op, w, a, a, api.OK}, {op, w, minus | a, minus | a, api.OK}})
			}
		}
	}
}

// P4.1: square roots, by hand.
func TestOneRoots(t *testing.T) {
	for _, w := range allWidths {
		minus, inf, none := sign(w), endless(w), oneNaN(w)
		holdOne(t, []oneCase{
			{api.FSqrt, w, 0, 0, api.OK}, {api.FSqrt, w, minus, minus, api.OK},
			{api.FSqrt, w, inf, inf, api.OK}, {api.FSqrt, w, minus | inf, none, api.OK},
			{api.FSqrt, w, minus | 1, none, api.OK}, {api.FSqrt, w, minus | inf - 1, none, api.OK}, {api.FSqrt, w, of(w, -4), none, api.OK},
			{api.FSqrt, w, of(w, 1), of(w, 1), api.OK}, {api.FSqrt, w, of(w, 9), of(w, 3), api.OK}, {api.FSqrt, w, of(w, 0.25), of(w, 0.5), api.OK},
			{api.FSqrt, w, of(w, 1) + 1, of(w, 1), api.OK}, {api.FSqrt, w, of(w, 1) + 2, of(w, 1) + 1, api.OK}, {api.FSqrt, w, of(w, 1) - 1, of(w, 1) - 1, api.OK},
		})
	}
	holdOne(t, []oneCase{
		{api.FSqrt, 32, 0x40000000, 0x3fb504f3, api.OK},
		{api.FSqrt, 64, 0x4000000000000000, 0x3ff6a09e667f3bcd, api.OK},
		{api.FSqrt, 32, 0x7f7fffff, 0x5f7fffff, api.OK},
		{api.FSqrt, 64, 0x7fefffffffffffff, 0x5fefffffffffffff, api.OK},
		{api.FSqrt, 32, 1, 0x1a3504f3, api.OK},
		{api.FSqrt, 64, 1, 0x1e60000000000000, api.OK},
	})
}

// P4.1, P4.2: no numbers of every shape, and the sign of whatever it is.
func TestOneOfNoNumbers(t *testing.T) {
	for _, w := range allWidths {
		minus := sign(w)
		for _, none := range nones(w) {
			for op := api.FSqrt; op <= api.FNearest; op++ {
				holdOne(t, []oneCase{{op, w, none, oneNaN(w), api.OK}})
			}
		}
		for _, a := range some(w) {
			holdOne(t, []oneCase{{api.FAbs, w, a, a &^ minus, api.OK}, {api.FNeg, w, a, a ^ minus, api.OK}})
		}
	}
}

// P4.1: every operator of one against the document's words.
func TestOneByTheWords(t *testing.T) {
	for _, w := range allWidths {
		for _, a := range append(some(w), mixed(w, 2000)...) {
			for op := firstOne; op <= lastOne; op++ {
				if n, want := one(t, op, w, a), wantOne(op, w, a); n != want {
					t.Fatalf("One(%d, %d, %x) = %x; want %x", op, w, a, n, want)
				}
			}
		}
	}
}

// P4.1: comparisons, by hand: which hold of a pair.
func TestThanByHand(t *testing.T) {
	same := []api.FltOp{api.FEq, api.FLe, api.FGe}
	less := []api.FltOp{api.FNe, api.FLt, api.FLe}
	more := []api.FltOp{api.FNe, api.FGt, api.FGe}
	other := []api.FltOp{api.FNe}
	for _, w := range allWidths {
		minus, inf, one, none := sign(w), endless(w), of(w, 1), oneNaN(w)
		for _, c := range []struct {
			a, b uint64
			hold []api.FltOp
		}{
			{0, minus, same}, {minus, 0, same}, {0, 0, same}, {one, one, same}, {inf, inf, same}, {minus | inf, minus | inf, same},
			{0, 1, less}, {minus, 1, less}, {minus | 1, 0, less}, {minus | 1, minus, less}, {one, one + 1, less}, {minus | one, one, less},
			{inf - 1, inf, less}, {minus | inf, minus | inf - 1, less}, {minus | inf, inf, less},
			{one, minus | one, more}, {minus | one, minus | one + 1, more}, {inf, inf - 1, more}, {1, minus, more}, {minus, minus | 1, more},
			{none, none, other}, {none, one, other}, {one, none, other}, {minus | none, inf, other}, {0, inf + 1, other}, {minus | inf, all(w), other},
		} {
			want := map[api.FltOp]bool{}
			for _, op := range c.hold {
				want[op] = true
			}
			for op := firstThan; op <= lastThan; op++ {
				if is := than(t, op, w, c.a, c.b); is != want[op] {
					t.Errorf("Than(%d, %d, %x, %x) = %v", op, w, c.a, c.b, is)
				}
			}
		}
	}
}

// P4.1: every comparison against the document's words, no numbers of every shape among what is compared.
func TestThanByTheWords(t *testing.T) {
	for _, w := range allWidths {
		l := some(w)
		for _, a := range l {
			for _, b := range l {
				for op := firstThan; op <= lastThan; op++ {
					if is, want := than(t, op, w, a, b), wantThan(op, w, a, b); is != want {
						t.Fatalf("Than(%d, %d, %x, %x) = %v; want %v", op, w, a, b, is, want)
					}
				}
			}
		}
	}
}

// P4.1: what is no number, and what is one.
func TestNone(t *testing.T) {
	for _, w := range allWidths {
		minus, inf := sign(w), endless(w)
		for _, a := range []uint64{0, 1, 1 << fraction(w), of(w, 1), inf - 1, inf} {
			for _, s := range []uint64{0, minus} {
				if is, e := floats.None(w, s|a); is || e != api.OK {
					t.Errorf("None(%d, %x) = %v, %v", w, s|a, is, e)
				}
			}
		}
		for _, a := range append(nones(w), inf+1, minus|inf|1, oneNaN(w), minus-1, all(w)) {
			if is, e := floats.None(w, a); !is || e != api.OK {
				t.Errorf("None(%d, %x) = %v, %v", w, a, is, e)
			}
		}
		for _, a := range some(w) {
			if is, e := floats.None(w, a); is != isNone(w, a) || e != api.OK {
				t.Errorf("None(%d, %x) = %v, %v", w, a, is, e)
			}
		}
	}
}

// refused holds that Two and Than answer ErrArg and nothing else, whatever the operator.
func refused(t *testing.T, w int, a, b uint64) {
	t.Helper()
	for op := range 256 {
		if n, e := floats.Two(api.FltOp(op), w, a, b); n != 0 || e != api.ErrArg {
			t.Fatalf("Two(%d, %d, %x, %x) = %x, %v", op, w, a, b, n, e)
		}
		if is, e := floats.Than(api.FltOp(op), w, a, b); is || e != api.ErrArg {
			t.Fatalf("Than(%d, %d, %x, %x) = %v, %v", op, w, a, b, is, e)
		}
	}
}

// refusedAlone holds that One and None answer ErrArg and nothing else, too.
func refusedAlone(t *testing.T, w int, a uint64) {
	t.Helper()
	for op := range 256 {
		if n, e := floats.One(api.FltOp(op), w, a); n != 0 || e != api.ErrArg {
			t.Fatalf("One(%d, %d, %x) = %x, %v", op, w, a, n, e)
		}
	}
	if is, e := floats.None(w, a); is || e != api.ErrArg {
		t.Fatalf("None(%d, %x) = %v, %v", w, a, is, e)
	}
}

// P4.1: a width that is none: all near those that are, and some far off.
func TestNoWidths(t *testing.T) {
	l := []int{math.MinInt, math.MinInt + 32, math.MaxInt, math.MaxInt - 31, 1<<32 + 32, 1<<32 + 64, -(1 << 32) + 64, 256 + 32, 256 + 64, 1 << 16}
	for w := -130; w <= 130; w++ {
		if w != 32 && w != 64 {
			l = append(l, w)
		}
	}
	for _, w := range l {
		for _, a := range []uint64{0, 1, 0x7fc00000, oneNaN(64), math.MaxUint64} {
			refused(t, w, a, 0)
			refused(t, w, 0, a)
			refusedAlone(t, w, a)
		}
	}
}

// P4.1: bits that are more than the width has, in each place.
func TestNoBits(t *testing.T) {
	for _, bad := range []uint64{1 << 32, 1<<32 + 1, 1<<33 - 1, 1<<32 | 0x7fc00000, 1 << 63, math.MaxUint64 - math.MaxUint32, oneNaN(64), math.MaxUint64} {
		for _, good := range some(32) {
			refused(t, 32, bad, good)
			refused(t, 32, good, bad)
		}
		refused(t, 32, bad, bad)
		refusedAlone(t, 32, bad)
	}
}

// P4.1: an operator that is none, or one of another kind.
func TestNoOperators(t *testing.T) {
	for _, w := range allWidths {
		for _, a := range []uint64{0, of(w, 1), endless(w), oneNaN(w), all(w)} {
			for _, b := range []uint64{0, of(w, 1), endless(w), oneNaN(w), all(w)} {
				for i := range 256 {
					holdOperator(t, api.FltOp(i), w, a, b)
				}
			}
		}
	}
}

func holdOperator(t *testing.T, op api.FltOp, w int, a, b uint64) {
	t.Helper()
	isTwo := op >= firstTwo && op <= lastTwo
	if n, e := floats.Two(op, w, a, b); isTwo && e != api.OK || !isTwo && (n != 0 || e != api.ErrArg) {
		t.Fatalf("Two(%d, %d, %x, %x) = %x, %v", op, w, a, b, n, e)
	}
	isOne := op >= firstOne && op <= lastOne
	if n, e := floats.One(op, w, a); isOne && e != api.OK || !isOne && (n != 0 || e != api.ErrArg) {
		t.Fatalf("One(%d, %d, %x) = %x, %v", op, w, a, n, e)
	}
	isThan := op >= firstThan && op <= lastThan
	if is, e := floats.Than(op, w, a, b); isThan && e != api.OK || !isThan && (is || e != api.ErrArg) {
		t.Fatalf("Than(%d, %d, %x, %x) = %v, %v", op, w, a, b, is, e)
	}
}

// P4.2: FAdd and FMul are the same in both orders; no answer but of those that hand bits
// on is another NaN than the one.
func TestWhatFollowsOfTwo(t *testing.T) {
	for _, w := range allWidths {
		l := some(w)
		for _, a := range l {
			for _, b := range l {
				for _, op := range []api.FltOp{api.FAdd, api.FMul} {
					if two(t, op, w, a, b) != two(t, op, w, b, a) {
						t.Fatalf("%d of width %d: %x and %x", op, w, a, b)
					}
				}
				for op := api.FAdd; op <= api.FMax; op++ {
					if n := two(t, op, w, a, b); isNone(w, n) && n != oneNaN(w) {
						t.Fatalf("Two(%d, %d, %x, %x) = %x", op, w, a, b, n)
					}
				}
			}
		}
	}
}

// P4.2: FMin and FMax of two numbers are these two; just one of FLt, FEq, FGt holds of them.
func TestWhatFollowsOfTwoNumbers(t *testing.T) {
	for _, w := range allWidths {
		l := numbers(w)
		for _, a := range l {
			for _, b := range l {
				low, high := two(t, api.FMin, w, a, b), two(t, api.FMax, w, a, b)
				if !(low == a && high == b || low == b && high == a) {
					t.Fatalf("width %d: of %x and %x the lesser is %x, the greater %x", w, a, b, low, high)
				}
				count := 0
				for _, op := range []api.FltOp{api.FLt, api.FEq, api.FGt} {
					if than(t, op, w, a, b) {
						count++
					}
				}
				if count != 1 {
					t.Fatalf("width %d: of %x and %x %d comparisons hold", w, a, b, count)
				}
			}
		}
	}
}

// P4.2: FNeg of FNeg, FAbs of FNeg, whatever it is; what is rounded to a whole number is
// rounded so again; no other NaN.
func TestWhatFollowsOfOne(t *testing.T) {
	for _, w := range allWidths {
		for _, a := range append(some(w), mixed(w, 2000)...) {
			neg := one(t, api.FNeg, w, a)
			if one(t, api.FNeg, w, neg) != a || one(t, api.FAbs, w, neg) != one(t, api.FAbs, w, a) {
				t.Fatalf("width %d: FNeg(%x) = %x", w, a, neg)
			}
			for op := api.FSqrt; op <= api.FNearest; op++ {
				n := one(t, op, w, a)
				if isNone(w, n) && n != oneNaN(w) {
					t.Fatalf("One(%d, %d, %x) = %x", op, w, a, n)
				}
				if op != api.FSqrt && one(t, op, w, n) != n {
					t.Fatalf("One(%d, %d, %x) is not itself", op, w, n)
				}
			}
		}
	}
}

// P4.2: FSqrt of FMul of a number and itself is its FAbs, where that product is exact.
func TestRootsOfSquares(t *testing.T) {
	for _, w := range allWidths {
		few := all(w) << (fraction(w)/2 + 2) & all(w) // fractions of which the square has room
		count := 0
		for _, x := range append(numbers(w), mixed(w, 500)...) {
			for _, a := range []uint64{x, x & few} {
				if isNone(w, a) || isEndless(w, a) {
					continue
				}
				n := two(t, api.FMul, w, a, a)
				square := exact(w, a)
				if isEndless(w, n) || exact(w, n).Cmp(square.Mul(square, square)) != 0 {
					continue
				}
				count++
				if r := one(t, api.FSqrt, w, n); r != one(t, api.FAbs, w, a) {
					t.Fatalf("width %d: FSqrt of %x, the square of %x, is %x", w, n, a, r)
				}
			}
		}
		if count < 200 {
			t.Errorf("width %d: but %d squares are exact", w, count)
		}
	}
}
