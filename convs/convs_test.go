package convs_test

import (
	"math"
	"math/big"
	"testing"

	"jacquard/api"
	"jacquard/convs"
)

// way is a pair of widths, with a sign or without.
type way struct {
	from, to int
	signed   bool
}

// ways are all of them.
func ways() []way {
	var l []way
	for _, from := range []int{32, 64} {
		for _, to := range []int{32, 64} {
			l = append(l, way{from, to, true}, way{from, to, false})
		}
	}
	return l
}

// fraction is how many bits of a float of width w are its fraction.
func fraction(w int) int {
	if w == 32 {
		return 23
	}
	return 52
}

// bias is the exponent of 1, as bits have it.
func bias(w int) int {
	return 1<<(w-fraction(w)-2) - 1
}

// sign is the float of width w whose sign alone is 1: -0.
func sign(w int) uint64 {
	return 1 << (w - 1)
}

// all is the greatest row of bits of width w.
func all(w int) uint64 {
	return math.MaxUint64 >> (64 - w)
}

// endless is what is beyond all numbers: the exponent all ones, the fraction 0.
func endless(w int) uint64 {
	return sign(w) - 1<<fraction(w)
}

// oneNaN is the document's.
func oneNaN(w int) uint64 {
	if w == 32 {
		return 0x7fc00000
	}
	return 0x7ff8000000000000
}

func isNone(w int, a uint64) bool {
	return a&^sign(w) > endless(w)
}

func isEndless(w int, a uint64) bool {
	return a&^sign(w) == endless(w)
}

// two is 2^e as a float of width w.
func two(w, e int) uint64 {
	return uint64(e+bias(w)) << fraction(w)
}

func power(n int) *big.Rat {
	p := new(big.Rat).SetInt(new(big.Int).Lsh(big.NewInt(1), uint(max(n, -n))))
	if n < 0 {
		p.Inv(p)
	}
	return p
}

// exact is the number that the float a is, by its bits; of what is beyond all numbers
// it is one that is just that much greater than the greatest one.
func exact(w int, a uint64) *big.Rat {
	low := a & (1<<fraction(w) - 1)
	e := int(a >> fraction(w) & (1<<(w-fraction(w)-1) - 1))
	if e == 0 {
		e = 1
	} else {
		low |= 1 << fraction(w)
	}
	x := new(big.Rat).SetInt(new(big.Int).SetUint64(low))
	x.Mul(x, power(e-bias(w)-fraction(w)))
	if a&sign(w) != 0 {
		x.Neg(x)
	}
	return x
}

// toEven is x, which is not below 0, rounded to the nearest whole number, of two to the even one.
func toEven(x *big.Rat) *big.Int {
	q, r := new(big.Int).QuoRem(x.Num(), x.Denom(), new(big.Int))
	c := r.Lsh(r, 1).Cmp(x.Denom())
	if c > 0 || c == 0 && q.Bit(0) == 1 {
		q.Add(q, big.NewInt(1))
	}
	return q
}

// nearest is the float of width w that is nearest to x, of two the one whose lowest
// bit is 0; s is the sign that a 0 has.
func nearest(w int, x *big.Rat, s uint64) uint64 {
	if x.Sign() > 0 {
		s = 0
	}
	if x.Sign() < 0 {
		s = sign(w)
	}
	x = new(big.Rat).Abs(x)
	if x.Sign() == 0 {
		return s
	}
	// The exponent e of x, or the least that there is: 2^e is not above x.
	e := x.Num().BitLen() - x.Denom().BitLen()
	if x.Cmp(power(e)) < 0 {
		e--
	}
	if e > bias(w) {
		return s | endless(w)
	}
	e = max(e, 1-bias(w))
	q := toEven(x.Mul(x, power(fraction(w)-e))).Uint64()
	// A fraction that is rounded up to 2 goes over into the exponent, as bits do.
	return s | uint64(e-1+bias(w))<<fraction(w) + q
}

// least and greatest are the bounds of the worths that fit a whole number of width w.
func least(w int, signed bool) *big.Int {
	n := new(big.Int)
	if signed {
		n.Neg(n.Lsh(big.NewInt(1), uint(w-1)))
	}
	return n
}

func greatest(w int, signed bool) *big.Int {
	n := new(big.Int).Lsh(big.NewInt(1), uint(w))
	n.Add(n, least(w, signed))
	return n.Sub(n, big.NewInt(1))
}

// number is the number of width w of a worth that fits.
func number(w int, x *big.Int) uint64 {
	n := new(big.Int).Lsh(big.NewInt(1), uint(w))
	return n.Mod(x, n).Uint64()
}

// worth is that of the whole number a of width w.
func worth(w int, signed bool, a uint64) *big.Int {
	x := new(big.Int).SetUint64(a)
	if signed && a >= sign(w) {
		x.Sub(x, new(big.Int).Lsh(big.NewInt(1), uint(w)))
	}
	return x
}

// wantCut is what the document says of CutHeld, and of Cut, which may trap.
func wantCut(c way, a uint64) (held uint64, e api.Errno) {
	if isNone(c.from, a) {
		return 0, api.ErrTrap
	}
	// What is beyond all numbers does not fit, as the number that exact tells does not.
	x := exact(c.from, a)
	n := new(big.Int).Quo(x.Num(), x.Denom())
	if low := least(c.to, c.signed); n.Cmp(low) < 0 {
		return number(c.to, low), api.ErrTrap
	}
	if high := greatest(c.to, c.signed); n.Cmp(high) > 0 {
		return number(c.to, high), api.ErrTrap
	}
	return number(c.to, n), api.OK
}

// holdCut holds Cut and CutHeld of a against what is wanted: held, and, of Cut, a trap or not.
func holdCut(t *testing.T, c way, a, held uint64, e api.Errno) {
	t.Helper()
	if n, got := convs.CutHeld(c.from, c.to, c.signed, a); n != held || got != api.OK {
		t.Errorf("CutHeld(%d, %d, %v, %x) = %d, %v; want %d", c.from, c.to, c.signed, a, n, got, held)
	}
	if e != api.OK {
		held = 0
	}
	if n, got := convs.Cut(c.from, c.to, c.signed, a); n != held || got != e {
		t.Errorf("Cut(%d, %d, %v, %x) = %d, %v; want %d, %v", c.from, c.to, c.signed, a, n, got, held, e)
	}
}

// fits holds that a is cut to n.
func fits(t *testing.T, c way, a, n uint64) {
	t.Helper()
	holdCut(t, c, a, n, api.OK)
}

// traps holds that a does not fit, and is held as n.
func traps(t *testing.T, c way, a, n uint64) {
	t.Helper()
	holdCut(t, c, a, n, api.ErrTrap)
}

// holdFloat holds that Float makes n of a.
func holdFloat(t *testing.T, c way, a, n uint64) {
	t.Helper()
	if got, e := convs.Float(c.from, c.to, c.signed, a); got != n || e != api.OK {
		t.Errorf("Float(%d, %d, %v, %d) = %x, %v; want %x", c.from, c.to, c.signed, a, got, e, n)
	}
}

func holdPromote(t *testing.T, a, n uint64) {
	t.Helper()
	if got, e := convs.Promote(a); got != n || e != api.OK {
		t.Errorf("Promote(%x) = %x, %v; want %x", a, got, e, n)
	}
}

// holdDemote holds that Demote makes n of a, and so with the other sign.
func holdDemote(t *testing.T, a, n uint64) {
	t.Helper()
	for _, s := range []uint64{0, 1} {
		x, want := a|s<<63, n|s<<31
		if got, e := convs.Demote(x); got != want || e != api.OK {
			t.Errorf("Demote(%x) = %x, %v; want %x", x, got, e, want)
		}
	}
}

// nones are floats of width w that are no number: of every shape, with both signs.
func nones(w int) []uint64 {
	l := []uint64{}
	quiet := uint64(1) << (fraction(w) - 1)
	for _, f := range []uint64{1, 2, 0x1234, quiet - 1, quiet, quiet + 1, quiet | quiet>>1, 2*quiet - 2, 2*quiet - 1} {
		l = append(l, endless(w)|f, sign(w)|endless(w)|f)
	}
	// Fractions of 64 bits of which those that 32 have are 0, or the others.
	if w == 64 {
		l = append(l, 0x7ff0000000000001, 0x7ff000001fffffff, 0x7ff0000020000000, 0xfff0000010000000, 0xfff0000020000000)
	}
	return l
}

// floats are those of width w at and about every power of two near the bounds of whole
// numbers, of 0, 1 and the greatest floats, and others, with both signs.
func floats(w int) []uint64 {
	normal := uint64(1) << fraction(w)
	l := []uint64{0, 1, 2, 3, normal / 2, normal - 1, normal, normal + 1, endless(w) - normal, endless(w) - 1, endless(w)}
	for e := -3; e <= 66; e++ {
		a := two(w, e)
		l = append(l, a-2, a-1, a, a+1, a+2, a+normal/2-1, a+normal/2, a+normal/2+1)
	}
	n := uint64(0x9e3779b97f4a7c15)
	for i := range 2000 {
		n = n*6364136223846793005 + 1442695040888963407
		l = append(l, n>>(64-w)&^sign(w), n>>(64-w)&(normal-1)|two(w, i%70-3))
	}
	for _, a := range l {
		l = append(l, a|sign(w))
	}
	return append(l, nones(w)...)
}

// wholes are numbers of width w at and about every power of two, at and about the
// middle of every two neighbours of both kinds of floats, and others.
func wholes(w int) []uint64 {
	l := []uint64{0, all(w)}
	for e := range w {
		p := uint64(1) << e
		l = append(l, p-1, p, p+1, p|p>>1, -p, -p-1, -p+1)
		for _, f := range []int{23, 52} {
			if e <= f {
				continue
			}
			half := p >> (f + 1)
			for _, m := range []uint64{p + half, p + 3*half, p + p - half, p + p - 3*half} {
				l = append(l, m-1, m, m+1, -m-1, -m, -m+1)
			}
		}
	}
	n := uint64(0x9e3779b97f4a7c15)
	for i := range 4000 {
		n = n*6364136223846793005 + 1442695040888963407
		l = append(l, n>>(i%64))
	}
	for i := range l {
		l[i] &= all(w)
	}
	return l
}

// P5.1, P5.2: the document's examples.
func TestExamples(t *testing.T) {
	fits(t, way{32, 32, true}, 0xbf800000, 4294967295)
	traps(t, way{32, 32, false}, 0xbf800000, 0)
	fits(t, way{32, 32, false}, 0xbf7fffff, 0)
	fits(t, way{64, 32, true}, 0x41dfffffffe00000, 2147483647)
	traps(t, way{64, 32, true}, 0x41e0000000000000, 2147483647)
	traps(t, way{32, 64, true}, 0x7fc00000, 0)
	traps(t, way{32, 32, false}, 0x7f800000, 4294967295)
	traps(t, way{64, 64, true}, 0xffefffffffffffff, 1<<63)
	holdFloat(t, way{32, 32, true}, 16777217, 0x4b800000)
	holdFloat(t, way{64, 32, false}, math.MaxUint64, 0x5f800000)
	holdFloat(t, way{64, 64, true}, math.MaxUint64, 0xbff0000000000000)
	holdDemote(t, 0x3ff0000010000000, 0x3f800000)
	holdPromote(t, 0xff800001, 0x7ff8000000000000)
}

// P5.1: ordinary floats, rounded to 0.
func TestCutOrdinary(t *testing.T) {
	for _, c := range ways() {
		f := func(x float64) uint64 {
			if c.from == 32 {
				return uint64(math.Float32bits(float32(x)))
			}
			return math.Float64bits(x)
		}
		for x, n := range map[float64]uint64{1: 1, 1.5: 1, 1.75: 1, 2: 2, 2.5: 2, 3.5: 3, 0.5: 0, 0.75: 0, 100.9: 100, 65536: 65536, 8388607.5: 8388607, 16777215: 16777215} {
			fits(t, c, f(x), n)
			switch {
			case c.signed:
				fits(t, c, f(-x), -n&all(c.to))
			case n == 0:
				fits(t, c, f(-x), 0)
			default:
				traps(t, c, f(-x), 0)
			}
		}
	}
}

// P5.1: the greatest and the least floats that fit, and their neighbours that do not, of
// every pair; what a float below a bound is cut to stands here by hand.
func TestCutBounds(t *testing.T) {
	for _, c := range []struct {
		way
		below uint64 // what the float below the bound is cut to
	}{
		{way{32, 32, true}, 1<<31 - 1<<7}, {way{32, 32, false}, 1<<32 - 1<<8},
		{way{32, 64, true}, 1<<63 - 1<<39}, {way{32, 64, false}, 1<<64 - 1<<40},
		{way{64, 32, true}, 1<<31 - 1}, {way{64, 32, false}, 1<<32 - 1},
		{way{64, 64, true}, 1<<63 - 1<<10}, {way{64, 64, false}, 1<<64 - 1<<11},
	} {
		minus, one := sign(c.from), two(c.from, 0)
		most, e := all(c.to), c.to
		if c.signed {
			most, e = most/2, e-1
		}
		end := two(c.from, e)
		fits(t, c.way, end-1, c.below)
		traps(t, c.way, end, most)
		traps(t, c.way, end+1, most)
		traps(t, c.way, endless(c.from)-1, most)
		traps(t, c.way, endless(c.from), most)
		if !c.signed {
			fits(t, c.way, minus|one-1, 0)
			for _, a := range []uint64{one, one + 1, two(c.from, 1), end, endless(c.from) - 1, endless(c.from)} {
				traps(t, c.way, minus|a, 0)
			}
			continue
		}
		fits(t, c.way, minus|one-1, 0)
		fits(t, c.way, minus|one, all(c.to))
		fits(t, c.way, minus|end-1, -c.below&all(c.to))
		fits(t, c.way, minus|end, sign(c.to))
		traps(t, c.way, minus|endless(c.from)-1, sign(c.to))
		traps(t, c.way, minus|endless(c.from), sign(c.to))
		// Of 64 bits to 32 floats below -2^31 are still rounded up to it.
		if !(c.from == 64 && c.to == 32) {
			traps(t, c.way, minus|end+1, sign(c.to))
		}
	}
}

// P5.1: floats of 64 bits have fractions at the bounds of whole numbers of 32.
func TestCutFractionsAtBounds(t *testing.T) {
	s, u := way{64, 32, true}, way{64, 32, false}
	fits(t, s, math.Float64bits(2147483647.5), 1<<31-1)
	fits(t, s, two(64, 31)-1, 1<<31-1)
	traps(t, s, two(64, 31), 1<<31-1)
	fits(t, s, math.Float64bits(-2147483648.5), 1<<31)
	fits(t, s, math.Float64bits(-2147483649)-1, 1<<31)
	traps(t, s, math.Float64bits(-2147483649), 1<<31)
	fits(t, u, math.Float64bits(4294967295.5), 1<<32-1)
	fits(t, u, two(64, 32)-1, 1<<32-1)
	traps(t, u, two(64, 32), 1<<32-1)
	fits(t, u, two(64, 31), 1<<31)
	traps(t, u, math.Float64bits(-2147483648), 0)
}

// P5.1: 0 with both signs, numbers whose exponent is 0, and all that is below 1.
func TestCutToZero(t *testing.T) {
	for _, c := range ways() {
		normal := uint64(1) << fraction(c.from)
		for _, a := range []uint64{0, 1, 2, normal / 2, normal - 1, normal, two(c.from, -1), two(c.from, 0) - 1} {
			fits(t, c, a, 0)
			fits(t, c, a|sign(c.from), 0)
		}
	}
}

// P5.1: no numbers of every shape, with both signs, are a trap, and held as 0.
func TestCutNoNumbers(t *testing.T) {
	for _, c := range ways() {
		for _, a := range nones(c.from) {
			traps(t, c, a, 0)
		}
	}
}

// P5.1: against the document's words.
func TestCutByTheWords(t *testing.T) {
	for _, c := range ways() {
		for _, a := range floats(c.from) {
			held, e := wantCut(c, a)
			holdCut(t, c, a, held, e)
		}
	}
}

// P5.2: ordinary whole numbers, all of them exact, and 0.
func TestFloatOrdinary(t *testing.T) {
	for _, c := range ways() {
		for n, want := range map[uint64][2]uint64{
			0: {0, 0}, 1: {0x3f800000, 0x3ff0000000000000}, 2: {0x40000000, 0x4000000000000000},
			3: {0x40400000, 0x4008000000000000}, 10: {0x41200000, 0x4024000000000000},
			1 << 16: {0x47800000, 0x40f0000000000000}, 1<<24 - 1: {0x4b7fffff, 0x416fffffe0000000},
		} {
			w := want[c.to/32-1]
			holdFloat(t, c, n, w)
			if c.signed && n != 0 {
				holdFloat(t, c, -n&all(c.from), w|sign(c.to))
			}
		}
	}
}

// P5.2: the bounds of whole numbers, with a sign and without.
func TestFloatBounds(t *testing.T) {
	for _, c := range ways() {
		half, most := two(c.to, c.from-1), two(c.to, c.from)
		if c.from == 32 && c.to == 64 {
			holdFloat(t, way{32, 64, true}, 1<<31-1, 0x41dfffffffc00000)
			holdFloat(t, way{32, 64, false}, 1<<32-1, 0x41efffffffe00000)
		} else {
			holdFloat(t, c, sign(c.from)-1, half)
		}
		if c.signed {
			holdFloat(t, c, sign(c.from), half|sign(c.to))
			holdFloat(t, c, all(c.from), two(c.to, 0)|sign(c.to))
			continue
		}
		holdFloat(t, c, sign(c.from), half)
		if !(c.from == 32 && c.to == 64) {
			holdFloat(t, c, all(c.from), most)
		}
	}
}

// P5.2: whole numbers that lie just between two floats, to the even one, and their
// neighbours, by hand.
func TestFloatBetweenTwo(t *testing.T) {
	for _, c := range ways() {
		f := fraction(c.to)
		if c.from <= f+1 {
			continue
		}
		// From 2^(f+1) on every other whole number is a float.
		base, p := two(c.to, f+1), uint64(1)<<(f+1)
		for i, want := range []uint64{0, 0, 1, 2, 2, 2, 3, 4, 4} {
			holdFloat(t, c, p+uint64(i), base+want)
			if c.signed {
				holdFloat(t, c, -(p+uint64(i))&all(c.from), (base+want)|sign(c.to))
			}
		}
		holdFloat(t, c, p-1, base-1)
		holdFloat(t, c, 2*p-1, two(c.to, f+2))
		holdFloat(t, c, 2*p-2, two(c.to, f+2)-1)
		holdFloat(t, c, 2*p-3, two(c.to, f+2)-2)
	}
}

// P5.2: 2^63 and 2^64 - 1, and the numbers at which a float below them begins.
func TestFloatAtTheTop(t *testing.T) {
	for _, c := range []struct {
		to   int
		step uint64 // from 2^64 down to the float below it
	}{{32, 1 << 40}, {64, 1 << 11}} {
		u, s := way{64, c.to, false}, way{64, c.to, true}
		top, half := two(c.to, 64), two(c.to, 63)
		for _, below := range []uint64{1, 2, c.step/2 - 1, c.step / 2} {
			holdFloat(t, u, -below, top)
		}
		for _, below := range []uint64{c.step/2 + 1, c.step, c.step + c.step/2 - 1} {
			holdFloat(t, u, -below, top-1)
		}
		holdFloat(t, u, -(c.step + c.step/2), top-2)
		for _, n := range []uint64{1 << 63, 1<<63 - 1, 1<<63 + 1, 1<<63 - c.step/4, 1<<63 + c.step/2} {
			holdFloat(t, u, n, half)
		}
		holdFloat(t, u, 1<<63+c.step/2+1, half+1)
		holdFloat(t, u, 1<<63+c.step+c.step/2, half+2)
		holdFloat(t, u, 1<<63-c.step/4-1, half-1)
		for _, n := range []uint64{1 << 63, 1<<63 + 1, 1<<63 + c.step/4} {
			holdFloat(t, s, n, half|sign(c.to))
		}
		holdFloat(t, s, 1<<63+c.step/4+1, half-1|sign(c.to))
		holdFloat(t, s, 1<<63-1, half)
		holdFloat(t, s, 1<<63-c.step/4-1, half-1)
	}
}

// P5.2: whole numbers of 64 bits that 64 bits of a float would round to the middle of two
// floats of 32: what is rounded twice goes to the even one then, wherever it came from.
func TestFloatRoundsOnce(t *testing.T) {
	s, u := way{64, 32, true}, way{64, 32, false}
	for e := 55; e <= 63; e++ {
		p, half := uint64(1)<<e, uint64(1)<<(e-24)
		for _, c := range []struct{ n, want uint64 }{
			{p + half - 1, two(32, e)}, {p + half, two(32, e)}, {p + half + 1, two(32, e) + 1},
			{p + 3*half - 1, two(32, e) + 1}, {p + 3*half, two(32, e) + 2}, {p + 3*half + 1, two(32, e) + 2},
		} {
			holdFloat(t, u, c.n, c.want)
			if e < 63 {
				holdFloat(t, s, c.n, c.want)
				holdFloat(t, s, -c.n, c.want|sign(32))
			}
		}
	}
}

// P5.2: against the document's words.
func TestFloatByTheWords(t *testing.T) {
	for _, c := range ways() {
		for _, a := range wholes(c.from) {
			holdFloat(t, c, a, nearest(c.to, new(big.Rat).SetInt(worth(c.from, c.signed, a)), 0))
		}
	}
}

// P5.2: ordinary floats, the edges, and no numbers of every shape.
func TestPromote(t *testing.T) {
	for a, want := range map[uint64]uint64{
		0: 0, 0x3f800000: 0x3ff0000000000000, 0x3f800001: 0x3ff0000020000000, 0x40490fdb: 0x400921fb60000000,
		1: 0x36a0000000000000, 2: 0x36b0000000000000, 3: 0x36b8000000000000, 0x7fffff: 0x380fffffc0000000,
		0x800000: 0x3810000000000000, 0x7f7fffff: 0x47efffffe0000000, 0x7f800000: 0x7ff0000000000000,
	} {
		holdPromote(t, a, want)
		holdPromote(t, a|sign(32), want|sign(64))
	}
	for _, a := range nones(32) {
		holdPromote(t, a, oneNaN(64))
	}
	for _, a := range floats(32) {
		switch {
		case isNone(32, a):
			holdPromote(t, a, oneNaN(64))
		case isEndless(32, a):
			holdPromote(t, a, endless(64)|a>>31<<63)
		default:
			holdPromote(t, a, nearest(64, exact(32, a), a>>31<<63))
		}
	}
}

// P5.2: ordinary floats, and those in the middle of two of 32 bits with their neighbours.
func TestDemoteBetweenTwo(t *testing.T) {
	holdDemote(t, 0, 0)
	holdDemote(t, 0x3ff0000000000000, 0x3f800000)
	holdDemote(t, 0x400921fb54442d18, 0x40490fdb)
	holdDemote(t, 0x3fb999999999999a, 0x3dcccccd)
	for _, e := range []int{-126, -125, -1, 0, 1, 24, 126} {
		wide, narrow := two(64, e), two(32, e)
		const half = 1 << 28
		holdDemote(t, wide, narrow)
		holdDemote(t, wide+half-1, narrow)
		holdDemote(t, wide+half, narrow)
		holdDemote(t, wide+half+1, narrow+1)
		holdDemote(t, wide+2*half, narrow+1)
		holdDemote(t, wide+3*half-1, narrow+1)
		holdDemote(t, wide+3*half, narrow+2)
		holdDemote(t, wide+3*half+1, narrow+2)
		next := two(64, e+1)
		holdDemote(t, next-half-1, narrow+1<<23-1)
		holdDemote(t, next-half, narrow+1<<23)
		holdDemote(t, next-1, narrow+1<<23)
	}
}

// P5.2: the least floats of 32 bits, the halves between them, and what is 0 then.
func TestDemoteLeast(t *testing.T) {
	f := math.Float64bits
	unit := math.Ldexp(1, -149) // the least float above 0
	for n := range 9 {
		even := uint64(n + n%2)
		holdDemote(t, f(float64(n)*unit), uint64(n))
		holdDemote(t, f((float64(n)+0.5)*unit), even)
		holdDemote(t, f((float64(n)+0.5)*unit)-1, uint64(n))
		holdDemote(t, f((float64(n)+0.5)*unit)+1, uint64(n+1))
	}
	for _, a := range []uint64{1, 2, 1<<52 - 1, 1 << 52, two(64, -300), two(64, -151), two(64, -150) - 1, two(64, -150)} {
		holdDemote(t, a, 0)
	}
	holdDemote(t, two(64, -150)+1, 1)
	// The greatest ones whose exponent is 0, and the least one whose is not.
	holdDemote(t, f((1<<23-1)*unit), 0x7fffff)
	holdDemote(t, f((1<<23-0.5)*unit)-1, 0x7fffff)
	holdDemote(t, f((1<<23-0.5)*unit), 0x800000)
	holdDemote(t, f((1<<23-1.5)*unit), 0x7ffffe)
	holdDemote(t, f((1<<23-1.5)*unit)+1, 0x7fffff)
}

// P5.2: what is still the greatest float of 32 bits, and what is beyond.
func TestDemoteGreatest(t *testing.T) {
	const greatest = 0x47efffffe0000000 // that of 32 bits
	const middle = 0x47effffff0000000   // of it and 2^128
	holdDemote(t, greatest-1<<28, 0x7f7ffffe)
	holdDemote(t, greatest-1<<28+1, 0x7f7fffff)
	for _, a := range []uint64{greatest - 1, greatest, greatest + 1, middle - 1} {
		holdDemote(t, a, 0x7f7fffff)
	}
	for _, a := range []uint64{middle, middle + 1, two(64, 128) - 1, two(64, 128), two(64, 129), two(64, 1023), endless(64) - 1, endless(64)} {
		holdDemote(t, a, 0x7f800000)
	}
}

// P5.2: no numbers of every shape, with both signs, are the one NaN.
func TestDemoteNoNumbers(t *testing.T) {
	for _, a := range nones(64) {
		if n, e := convs.Demote(a); n != oneNaN(32) || e != api.OK {
			t.Errorf("Demote(%x) = %x, %v", a, n, e)
		}
	}
}

// P5.2: Demote against the document's words, floats near those of 32 bits and the middle of two among them.
func TestDemoteByTheWords(t *testing.T) {
	l := floats(64)
	n := uint64(0x9e3779b97f4a7c15)
	for i := range 4000 {
		n = n*6364136223846793005 + 1442695040888963407
		a := n&sign(64) | two(64, i%285-155) | n>>12
		near := a &^ (1<<28 - 1) // a float of 32 bits, or the middle of two
		l = append(l, a, near-1, near, near+1)
	}
	for _, a := range l {
		want := oneNaN(32)
		switch {
		case isEndless(64, a):
			want = endless(32) | a>>63<<31
		case !isNone(64, a):
			want = nearest(32, exact(64, a), a>>63<<31)
		}
		if got, e := convs.Demote(a); got != want || e != api.OK {
			t.Errorf("Demote(%x) = %x, %v; want %x", a, got, e, want)
		}
	}
}

// refused holds that all that takes widths answers ErrArg and nothing else.
func refused(t *testing.T, from, to int, a uint64) {
	t.Helper()
	for _, signed := range []bool{true, false} {
		if n, e := convs.Cut(from, to, signed, a); n != 0 || e != api.ErrArg {
			t.Errorf("Cut(%d, %d, %v, %x) = %d, %v", from, to, signed, a, n, e)
		}
		if n, e := convs.CutHeld(from, to, signed, a); n != 0 || e != api.ErrArg {
			t.Errorf("CutHeld(%d, %d, %v, %x) = %d, %v", from, to, signed, a, n, e)
		}
		if n, e := convs.Float(from, to, signed, a); n != 0 || e != api.ErrArg {
			t.Errorf("Float(%d, %d, %v, %x) = %x, %v", from, to, signed, a, n, e)
		}
	}
}

// P5.1, P5.2: a width that is none, as from and as to: all near those that are, and some far off.
func TestNoWidths(t *testing.T) {
	l := []int{math.MinInt, math.MinInt + 32, math.MaxInt, math.MaxInt - 31, 1<<32 + 32, 1<<32 + 64, -(1 << 32) + 64, 256 + 32, 256 + 64, 1 << 16}
	for w := -130; w <= 130; w++ {
		if w != 32 && w != 64 {
			l = append(l, w)
		}
	}
	for _, w := range l {
		// What would be a trap is refused first, too.
		for _, a := range []uint64{0, 1, 0x3f800000, 0x7fc00000, 0x7f800000, math.MaxUint32} {
			for _, good := range []int{32, 64} {
				refused(t, w, good, a)
				refused(t, good, w, a)
			}
			refused(t, w, w, a)
			refused(t, w, 16, a)
		}
		refused(t, 64, w, math.MaxUint64)
		refused(t, w, 64, math.MaxUint64)
	}
}

// P5.1, P5.2: bits that are more than from has.
func TestNoBits(t *testing.T) {
	for _, a := range []uint64{1 << 32, 1<<32 + 1, 1<<33 - 1, 1<<32 | 0x7fc00000, 1 << 63, math.MaxUint64 - math.MaxUint32, oneNaN(64), 0x3ff0000000000000, math.MaxUint64} {
		for _, to := range []int{32, 64, 16, 0} {
			refused(t, 32, to, a)
		}
		if n, e := convs.Promote(a); n != 0 || e != api.ErrArg {
			t.Errorf("Promote(%x) = %x, %v", a, n, e)
		}
	}
}

// P5.3: CutHeld is Cut, where that does not trap.
func TestHeldIsCut(t *testing.T) {
	for _, c := range ways() {
		count := 0
		for _, a := range floats(c.from) {
			n, e := convs.Cut(c.from, c.to, c.signed, a)
			if e != api.OK {
				continue
			}
			count++
			if held, e := convs.CutHeld(c.from, c.to, c.signed, a); held != n || e != api.OK {
				t.Errorf("%v: %x is cut to %d, but held %d, %v", c, a, n, held, e)
			}
		}
		if count < 500 {
			t.Errorf("%v: but %d floats fit", c, count)
		}
	}
}

// P5.3: Demote of Promote is the float, but for other NaNs, of which it is the one.
func TestDemoteOfPromote(t *testing.T) {
	l := floats(32)
	for n := uint64(0); n <= math.MaxUint32; n += 4099 {
		l = append(l, n)
	}
	for _, a := range l {
		want := a
		if isNone(32, a) {
			want = oneNaN(32)
		}
		wide, e := convs.Promote(a)
		if e != api.OK {
			t.Fatalf("Promote(%x) = %v", a, e)
		}
		if n, e := convs.Demote(wide); n != want || e != api.OK {
			t.Fatalf("Demote(Promote(%x)) = %x, %v", a, n, e)
		}
	}
}

// P5.3: a whole number that is made a float, which is exact, and cut, is itself.
func TestCutOfFloat(t *testing.T) {
	for _, c := range ways() {
		count := 0
		for _, a := range wholes(c.from) {
			f, e := convs.Float(c.from, c.to, c.signed, a)
			if e != api.OK {
				t.Fatalf("%v: Float of %d: %v", c, a, e)
			}
			if exact(c.to, f).Cmp(new(big.Rat).SetInt(worth(c.from, c.signed, a))) != 0 {
				continue
			}
			count++
			back := way{c.to, c.from, c.signed}
			fits(t, back, f, a)
		}
		if count < 500 {
			t.Errorf("%v: but %d floats are exact", c, count)
		}
	}
}

// P5.3: greater whole numbers make no lesser floats.
func TestFloatKeepsOrder(t *testing.T) {
	for _, c := range ways() {
		l := wholes(c.from)
		for i, a := range l {
			b := (a + 1) & all(c.from)
			if i%2 == 0 {
				b = l[(i+7)%len(l)]
			}
			if worth(c.from, c.signed, a).Cmp(worth(c.from, c.signed, b)) > 0 {
				a, b = b, a
			}
			x, e := convs.Float(c.from, c.to, c.signed, a)
			y, f := convs.Float(c.from, c.to, c.signed, b)
			if e != api.OK || f != api.OK || exact(c.to, x).Cmp(exact(c.to, y)) > 0 {
				t.Fatalf("%v: of %d and %d come %x and %x (%v, %v)", c, a, b, x, y, e, f)
			}
		}
	}
}
