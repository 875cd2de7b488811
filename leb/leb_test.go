package leb_test

import (
	"bytes"
	"math"
	"math/big"
	"testing"

	"jacquard/api"
	"jacquard/leb"
)

// run: count bytes of one kind, and one more behind them.
func run(fill byte, count int, last byte) []byte {
	return append(bytes.Repeat([]byte{fill}, count), last)
}

// power is 2^n.
func power(n int) *big.Int { return new(big.Int).Lsh(big.NewInt(1), uint(n)) }

// asked is what the document's words say of the bytes from at on, by numbers without bounds.
func asked(b []byte, at, w int, signed bool) (n *big.Int, next int, e api.Errno) {
	if w < 1 || w > 64 || at < 0 || at > len(b) {
		return big.NewInt(0), 0, api.ErrArg
	}
	n = big.NewInt(0)
	for i := at; i < len(b) && i-at < (w+6)/7; i++ {
		n.Add(n, new(big.Int).Mul(big.NewInt(int64(b[i]%128)), power(7*(i-at))))
		if b[i] >= 128 {
			continue
		}
		least, bound := big.NewInt(0), power(w)
		if signed {
			least, bound = new(big.Int).Neg(power(w-1)), power(w-1)
			if b[i] >= 64 {
				n.Sub(n, power(7*(i-at+1)))
			}
		}
		if n.Cmp(least) >= 0 && n.Cmp(bound) < 0 {
			return n, i + 1, api.OK
		}
		break
	}
	return big.NewInt(0), 0, api.ErrForm
}

// hold holds U and S against the document's words.
func hold(t *testing.T, b []byte, at, w int) {
	t.Helper()
	want, to, err := asked(b, at, w, false)
	if n, next, e := leb.U(b, at, w); n != want.Uint64() || next != to || e != err {
		t.Fatalf("U(%x, %d, %d) = %d, %d, %v; want %v, %d, %v", b, at, w, n, next, e, want, to, err)
	}
	want, to, err = asked(b, at, w, true)
	if n, next, e := leb.S(b, at, w); n != want.Int64() || next != to || e != err {
		t.Fatalf("S(%x, %d, %d) = %d, %d, %v; want %v, %d, %v", b, at, w, n, next, e, want, to, err)
	}
}

// P1.1: the document's examples, and the edges of each width by hand.
func TestUnsigned(t *testing.T) {
	for _, c := range []struct {
		b     []byte
		at, w int
		n     uint64
		next  int
		e     api.Errno
	}{
		{[]byte{0xe5, 0x8e, 0x26}, 0, 32, 624485, 3, api.OK},
		{[]byte{0x80, 0x00}, 0, 32, 0, 2, api.OK},
		{[]byte{0xff, 0x01}, 0, 8, 255, 2, api.OK},
		{[]byte{0xff, 0x03}, 0, 8, 0, 0, api.ErrForm},
		{[]byte{0x80, 0x80, 0x00}, 0, 8, 0, 0, api.ErrForm},
		{[]byte{0x80}, 0, 32, 0, 0, api.ErrForm},
		{run(0xff, 5, 0x0f), 0, 32, 0, 0, api.ErrForm},
		{run(0xff, 4, 0x0f), 0, 32, math.MaxUint32, 5, api.OK},
		{run(0xff, 4, 0x1f), 0, 32, 0, 0, api.ErrForm},
		// needless groups, as many as the width has
		{run(0x80, 4, 0x00), 0, 32, 0, 5, api.OK},
		{append([]byte{0x81}, run(0x80, 8, 0x00)...), 0, 64, 1, 10, api.OK},
		{run(0x80, 9, 0x00), 0, 64, 0, 10, api.OK},
		{run(0x80, 10, 0x00), 0, 64, 0, 0, api.ErrForm},
		// the least widths, one that is a multiple of seven, the greatest
		{[]byte{0x00}, 0, 1, 0, 1, api.OK},
		{[]byte{0x01}, 0, 1, 1, 1, api.OK},
		{[]byte{0x02}, 0, 1, 0, 0, api.ErrForm},
		{[]byte{0x40}, 0, 1, 0, 0, api.ErrForm},
		{[]byte{0x80, 0x00}, 0, 1, 0, 0, api.ErrForm},
		{[]byte{0x7f}, 0, 7, 127, 1, api.OK},
		{[]byte{0x80, 0x00}, 0, 7, 0, 0, api.ErrForm},
		{[]byte{0xff, 0x7f}, 0, 14, 1<<14 - 1, 2, api.OK},
		{run(0xff, 8, 0x7f), 0, 63, 1<<63 - 1, 9, api.OK},
		{run(0xff, 9, 0x01), 0, 64, math.MaxUint64, 10, api.OK},
		{run(0xff, 9, 0x02), 0, 64, 0, 0, api.ErrForm},
		{run(0xff, 9, 0x7f), 0, 64, 0, 0, api.ErrForm},
		// a place in the midst, one at the last byte, one at the very end
		{[]byte{0xff, 0xff, 0xac, 0x02, 0xff}, 2, 16, 300, 4, api.OK},
		{[]byte{0xff, 0x05}, 1, 32, 5, 2, api.OK},
		{[]byte{0x05}, 1, 32, 0, 0, api.ErrForm},
		{nil, 0, 32, 0, 0, api.ErrForm},
		{[]byte{}, 0, 1, 0, 0, api.ErrForm},
	} {
		if n, next, e := leb.U(c.b, c.at, c.w); n != c.n || next != c.next || e != c.e {
			t.Errorf("U(%x, %d, %d) = %d, %d, %v; want %d, %d, %v", c.b, c.at, c.w, n, next, e, c.n, c.next, c.e)
		}
	}
}

// P1.1: the same of signed numbers.
func TestSigned(t *testing.T) {
	for _, c := range []struct {
		b     []byte
		at, w int
		n     int64
		next  int
		e     api.Errno
	}{
		{[]byte{0x7f}, 0, 32, -1, 1, api.OK},
		{[]byte{0xff, 0x7f}, 0, 8, -1, 2, api.OK},
		{[]byte{0x80, 0x7f}, 0, 8, -128, 2, api.OK},
		{[]byte{0xff, 0x7e}, 0, 8, 0, 0, api.ErrForm},
		{[]byte{0xc0, 0xbb, 0x78}, 0, 33, -123456, 3, api.OK},
		{[]byte{0xff, 0x00}, 0, 8, 127, 2, api.OK},
		{[]byte{0x80, 0x01}, 0, 8, 0, 0, api.ErrForm},
		// needless groups, of a number above 0 and of one below
		{[]byte{0x85, 0x80, 0x00}, 0, 32, 5, 3, api.OK},
		{run(0xff, 4, 0x7f), 0, 32, -1, 5, api.OK},
		{run(0xff, 9, 0x7f), 0, 64, -1, 10, api.OK},
		{run(0xff, 10, 0x7f), 0, 64, 0, 0, api.ErrForm},
		{run(0x80, 9, 0x00), 0, 64, 0, 10, api.OK},
		// the least and the greatest number of a width
		{[]byte{0x00}, 0, 1, 0, 1, api.OK},
		{[]byte{0x7f}, 0, 1, -1, 1, api.OK},
		{[]byte{0x01}, 0, 1, 0, 0, api.ErrForm},
		{[]byte{0x7e}, 0, 1, 0, 0, api.ErrForm},
		{[]byte{0x40}, 0, 7, -64, 1, api.OK},
		{[]byte{0x3f}, 0, 7, 63, 1, api.OK},
		{[]byte{0x40}, 0, 6, 0, 0, api.ErrForm},
		{run(0xff, 4, 0x07), 0, 32, math.MaxInt32, 5, api.OK},
		{run(0x80, 4, 0x78), 0, 32, math.MinInt32, 5, api.OK},
		{run(0xff, 4, 0x0f), 0, 32, 0, 0, api.ErrForm},
		{run(0xff, 4, 0x77), 0, 32, 0, 0, api.ErrForm},
		{run(0xff, 4, 0x0f), 0, 33, 1<<32 - 1, 5, api.OK},
		{run(0x80, 4, 0x70), 0, 33, -1 << 32, 5, api.OK},
		{run(0xff, 8, 0x3f), 0, 63, 1<<62 - 1, 9, api.OK},
		{run(0x80, 8, 0x40), 0, 63, -1 << 62, 9, api.OK},
		{run(0xff, 9, 0x00), 0, 64, math.MaxInt64, 10, api.OK},
		{run(0x80, 9, 0x7f), 0, 64, math.MinInt64, 10, api.OK},
		{run(0xff, 9, 0x01), 0, 64, 0, 0, api.ErrForm},
		{run(0x80, 9, 0x7e), 0, 64, 0, 0, api.ErrForm},
		// places, and bytes that end ahead of the last group
		{[]byte{0xff, 0xbf, 0x7f, 0x00}, 1, 32, -65, 3, api.OK},
		{[]byte{0x00, 0x40}, 1, 32, -64, 2, api.OK},
		{[]byte{0x40}, 1, 32, 0, 0, api.ErrForm},
		{[]byte{0xc0, 0xbb}, 0, 32, 0, 0, api.ErrForm},
		{nil, 0, 64, 0, 0, api.ErrForm},
	} {
		if n, next, e := leb.S(c.b, c.at, c.w); n != c.n || next != c.next || e != c.e {
			t.Errorf("S(%x, %d, %d) = %d, %d, %v; want %d, %d, %v", c.b, c.at, c.w, n, next, e, c.n, c.next, c.e)
		}
	}
}

// P1.1: a width or a place that may not be is told ahead of bytes that may not be.
func TestWrongArguments(t *testing.T) {
	type call struct {
		b     []byte
		at, w int
	}
	var calls []call
	for _, b := range [][]byte{nil, {}, {0x00}, {0x80}, {0xff, 0x7f}} {
		for _, w := range []int{math.MinInt, -64, -1, 0, 65, 70, 128, math.MaxInt} {
			calls = append(calls, call{b, 0, w}, call{b, len(b), w}, call{b, -1, w})
		}
		for _, at := range []int{math.MinInt, -1, len(b) + 1, math.MaxInt} {
			calls = append(calls, call{b, at, 1}, call{b, at, 32}, call{b, at, 64})
		}
	}
	for _, c := range calls {
		if n, next, e := leb.U(c.b, c.at, c.w); n != 0 || next != 0 || e != api.ErrArg {
			t.Errorf("U(%x, %d, %d) = %d, %d, %v", c.b, c.at, c.w, n, next, e)
		}
		if n, next, e := leb.S(c.b, c.at, c.w); n != 0 || next != 0 || e != api.ErrArg {
			t.Errorf("S(%x, %d, %d) = %d, %d, %v", c.b, c.at, c.w, n, next, e)
		}
	}
}

// P1.1: every last group behind runs of groups, of all lengths up to beyond the greatest, at all widths.
func TestReadAsAsked(t *testing.T) {
	for _, fill := range []byte{0x80, 0x81, 0xbf, 0xc0, 0xff} {
		for count := range 12 {
			for last := range 256 {
				b := run(fill, count, byte(last))
				for w := 1; w <= 64; w++ {
					hold(t, b, 0, w)
				}
			}
		}
	}
}

// P1.1: all rows of two bytes, at widths around those where the number of groups changes.
func TestReadTwoBytes(t *testing.T) {
	for first := range 256 {
		for second := range 256 {
			b := []byte{byte(first), byte(second)}
			for _, w := range []int{1, 6, 7, 8, 13, 14, 15, 64} {
				hold(t, b, 0, w)
			}
		}
	}
}

// P1.1: each place of a row of bytes, and those just outside of it.
func TestReadAtEachPlace(t *testing.T) {
	b := []byte{0x00, 0x80, 0x7f, 0xff, 0xff, 0x01, 0xc0, 0xbb, 0x78, 0x80, 0x80, 0x80, 0x80, 0x80, 0x00, 0xe5, 0x8e}
	for at := -2; at <= len(b)+2; at++ {
		for w := -1; w <= 66; w++ {
			hold(t, b, at, w)
		}
	}
}

// P1.1: what is handed in stays as it is, and what stands behind its end is not read.
func TestHandedInStays(t *testing.T) {
	whole := []byte{0x05, 0x80, 0x80, 0x01, 0x7f}
	kept := bytes.Clone(whole)
	short := whole[:3]
	if n, next, e := leb.U(short, 1, 32); n != 0 || next != 0 || e != api.ErrForm {
		t.Errorf("U past the end = %d, %d, %v", n, next, e)
	}
	if n, next, e := leb.S(short, 1, 32); n != 0 || next != 0 || e != api.ErrForm {
		t.Errorf("S past the end = %d, %d, %v", n, next, e)
	}
	if n, next, e := leb.U(short, 0, 32); n != 5 || next != 1 || e != api.OK {
		t.Errorf("U = %d, %d, %v", n, next, e)
	}
	if !bytes.Equal(whole, kept) {
		t.Errorf("changed to %x", whole)
	}
}

// P1.2: short forms by hand.
func TestPut(t *testing.T) {
	for _, c := range []struct {
		n uint64
		b []byte
	}{
		{0, []byte{0x00}},
		{1, []byte{0x01}},
		{64, []byte{0x40}},
		{127, []byte{0x7f}},
		{128, []byte{0x80, 0x01}},
		{255, []byte{0xff, 0x01}},
		{624485, []byte{0xe5, 0x8e, 0x26}},
		{math.MaxUint32, run(0xff, 4, 0x0f)},
		{1<<63 - 1, run(0xff, 8, 0x7f)},
		{1 << 63, run(0x80, 9, 0x01)},
		{math.MaxUint64, run(0xff, 9, 0x01)},
	} {
		if b := leb.PutU(c.n); !bytes.Equal(b, c.b) {
			t.Errorf("PutU(%d) = %x; want %x", c.n, b, c.b)
		}
		if l := leb.LenU(c.n); l != len(c.b) {
			t.Errorf("LenU(%d) = %d; want %d", c.n, l, len(c.b))
		}
	}
	for _, c := range []struct {
		n int64
		b []byte
	}{
		{0, []byte{0x00}},
		{-1, []byte{0x7f}},
		{63, []byte{0x3f}},
		{64, []byte{0xc0, 0x00}},
		{-64, []byte{0x40}},
		{-65, []byte{0xbf, 0x7f}},
		{127, []byte{0xff, 0x00}},
		{-128, []byte{0x80, 0x7f}},
		{-123456, []byte{0xc0, 0xbb, 0x78}},
		{math.MaxInt32, run(0xff, 4, 0x07)},
		{math.MinInt32, run(0x80, 4, 0x78)},
		{1<<62 - 1, run(0xff, 8, 0x3f)},
		{-1 << 62, run(0x80, 8, 0x40)},
		{1 << 62, append(run(0x80, 8, 0xc0), 0x00)},
		{math.MaxInt64, run(0xff, 9, 0x00)},
		{math.MinInt64, run(0x80, 9, 0x7f)},
	} {
		if b := leb.PutS(c.n); !bytes.Equal(b, c.b) {
			t.Errorf("PutS(%d) = %x; want %x", c.n, b, c.b)
		}
	}
}

// P1.2: what is answered is new memory each time.
func TestPutIsNew(t *testing.T) {
	for _, n := range []int64{0, 5, 128, -1, math.MaxInt64} {
		u, s := leb.PutU(uint64(n)), leb.PutS(n)
		keptU, keptS := bytes.Clone(u), bytes.Clone(s)
		clear(u[:cap(u)])
		clear(s[:cap(s)])
		if again := leb.PutU(uint64(n)); !bytes.Equal(again, keptU) {
			t.Errorf("PutU(%d) = %x; was %x", n, again, keptU)
		}
		if again := leb.PutS(n); !bytes.Equal(again, keptS) {
			t.Errorf("PutS(%d) = %x; was %x", n, again, keptS)
		}
	}
}

// numbers: those around the powers of two, as bits, and all of the least ones.
func numbers() []uint64 {
	var l []uint64
	for n := range uint64(1024) {
		l = append(l, n, -n)
	}
	for i := range 64 {
		for d := range uint64(3) {
			l = append(l, 1<<i+d-1, -(1<<i + d - 1))
		}
	}
	return append(l, 0x0123456789abcdef, 0xfedcba9876543210, 0x5555555555555555, 0xaaaaaaaaaaaaaaaa)
}

// P1.3: what is put is read, of every width that it fits and of no other one, wherever it stands and whatever is behind it.
func TestPutIsRead(t *testing.T) {
	for _, n := range numbers() {
		u, s := leb.PutU(n), leb.PutS(int64(n))
		if leb.LenU(n) != len(u) {
			t.Fatalf("LenU(%d) = %d; PutU has %d", n, leb.LenU(n), len(u))
		}
		for _, ahead := range [][]byte{nil, {0xff}, {0x00, 0x80, 0x80}} {
			for _, behind := range [][]byte{nil, {0x00}, {0x7f}, {0xff, 0xff}} {
				for w := 1; w <= 64; w++ {
					checkRead(t, n, ahead, u, behind, w)
					checkReadSigned(t, int64(n), ahead, s, behind, w)
				}
			}
		}
	}
}

func checkRead(t *testing.T, n uint64, ahead, form, behind []byte, w int) {
	t.Helper()
	b := bytes.Join([][]byte{ahead, form, behind}, nil)
	want, to, err := n, len(ahead)+len(form), api.OK
	if n>>(w-1)>>1 != 0 {
		want, to, err = 0, 0, api.ErrForm
	}
	if got, next, e := leb.U(b, len(ahead), w); got != want || next != to || e != err {
		t.Fatalf("U(%x, %d, %d) = %d, %d, %v; PutU of %d is in it", b, len(ahead), w, got, next, e, n)
	}
}

func checkReadSigned(t *testing.T, n int64, ahead, form, behind []byte, w int) {
	t.Helper()
	b := bytes.Join([][]byte{ahead, form, behind}, nil)
	want, to, err := n, len(ahead)+len(form), api.OK
	if high := n >> (w - 1); high != 0 && high != -1 {
		want, to, err = 0, 0, api.ErrForm
	}
	if got, next, e := leb.S(b, len(ahead), w); got != want || next != to || e != err {
		t.Fatalf("S(%x, %d, %d) = %d, %d, %v; PutS of %d is in it", b, len(ahead), w, got, next, e, n)
	}
}

// P1.3: no form that is read is shorter than what is put.
func TestPutIsShortest(t *testing.T) {
	var forms [][]byte
	for first := range 256 {
		for second := range 256 {
			forms = append(forms, []byte{byte(first), byte(second)})
		}
	}
	for count := range 10 {
		for last := range 128 {
			forms = append(forms, run(0x80, count, byte(last)), run(0xff, count, byte(last)))
		}
	}
	for _, b := range forms {
		if n, next, e := leb.U(b, 0, 64); e == api.OK && len(leb.PutU(n)) > next {
			t.Fatalf("PutU(%d) = %x; %x is shorter", n, leb.PutU(n), b[:next])
		}
		if n, next, e := leb.S(b, 0, 64); e == api.OK && len(leb.PutS(n)) > next {
			t.Fatalf("PutS(%d) = %x; %x is shorter", n, leb.PutS(n), b[:next])
		}
	}
}
