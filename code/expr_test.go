package code_test

import (
	"bytes"
	"math"
	"runtime"
	"testing"

	"jacquard/api"
	"jacquard/code"
)

// P11.1, P11.2: the document's examples.
func TestExamples(t *testing.T) {
	if l, next, e := code.Expr([]byte{0x41, 0x7f, 0x0b}, 0); len(l) != 1 || l[0].N != 0xffffffff || next != 3 || e != api.OK {
		t.Errorf("Expr(41 7f 0b) = %v, %d, %v", l, next, e)
	}
	if l, next, e := code.Expr([]byte{2, 0x40, 1, 0x0b, 0x0b}, 0); len(l) != 1 || len(l[0].Body) != 1 || l[0].Body[0].Op != 1 || next != 5 || e != api.OK {
		t.Errorf("Expr(02 40 01 0b 0b) = %v, %d, %v", l, next, e)
	}
	if l, _, e := code.Expr([]byte{4, 0x7f, 0x41, 1, 5, 0x0b, 0x0b}, 0); len(l) != 1 || len(l[0].Else) != 0 || e != api.OK {
		t.Errorf("Expr(04 7f 41 01 05 0b 0b) = %v, %v", l, e)
	}
	for first, n := range map[byte]uint32{0x80: 0, 0xff: 127} {
		if l, _, e := code.Expr([]byte{2, first, 0, 0x0b, 0x0b}, 0); len(l) != 1 || l[0].Block.Kind != api.BlockType || l[0].Block.Type != n || e != api.OK {
			t.Errorf("Expr(02 %x 00 0b 0b) = %v, %v", first, l, e)
		}
	}
	for _, b := range [][]byte{{2, 0xc0, 0x7f, 0x0b, 0x0b}, {6, 0x0b}, {5, 0x0b}, {0x3f, 1, 0x0b}, {0xfd, 0x9a, 1, 0x0b}, {0x41, 1}} {
		isForm(t, b)
	}
	isPut(t, []api.Instr{{Op: 0x41, N: 0xffffffff}}, []byte{0x41, 0x7f, 0x0b})
	isPut(t, []api.Instr{{Op: 0x0e, L: words(1, 0)}}, []byte{0x0e, 1, 1, 0, 0x0b})
	if !code.Datas([]api.Instr{{Op: 0xfc08}}) {
		t.Error("Datas(memory.init) = false")
	}
	if n := code.Depth([]api.Instr{{Op: 2, Body: []api.Instr{{Op: 2}}}}); n != 2 {
		t.Errorf("Depth(block of block) = %d", n)
	}
}

// P11.1, P11.2: no instructions.
func TestEmpty(t *testing.T) {
	isRead(t, []byte{0x0b}, nil)
	isPut(t, nil, []byte{0x0b})
	isPut(t, []api.Instr{}, []byte{0x0b})
	isForm(t, nil)
}

// P11.1, P11.2: places that may not be, ahead of what stands in b.
func TestPlaces(t *testing.T) {
	for _, b := range [][]byte{nil, {}, {0x0b}, {0xff}, {2, 0x40, 1, 0x0b, 0x0b}} {
		for _, at := range []int{-1, -2, -len(b) - 1, math.MinInt, len(b) + 1, len(b) + 2, math.MaxInt} {
			if l, next, e := code.Expr(b, at); len(l) != 0 || next != 0 || e != api.ErrArg {
				t.Errorf("Expr(%x, %d) = %v, %d, %v", b, at, l, next, e)
			}
			if next, depth, datas, e := code.Skip(b, at); next != 0 || depth != 0 || datas || e != api.ErrArg {
				t.Errorf("Skip(%x, %d) = %d, %d, %v, %v", b, at, next, depth, datas, e)
			}
		}
		for at := range len(b) + 1 {
			hold(t, b, at)
		}
		if _, _, e := code.Expr(b, len(b)); e != api.ErrForm {
			t.Errorf("Expr(%x) at its end: %v", b, e)
		}
	}
	// There may be room behind the end: it is none of b.
	room := []byte{0x41, 0x80, 0, 0x0b, 0x0b}
	for n := range 4 {
		isForm(t, room[:n])
	}
}

// P11.1: the two bytes that stand between instructions, where they may not.
func TestMarks(t *testing.T) {
	for _, b := range [][]byte{
		{5}, {5, 0x0b}, {1, 5, 0x0b}, {5, 5, 0x0b},
		{2, 0x40, 5, 0x0b, 0x0b}, {3, 0x40, 1, 5, 1, 0x0b, 0x0b},
		{4, 0x40, 5, 5, 0x0b, 0x0b}, {4, 0x40, 1, 5, 1, 5, 1, 0x0b, 0x0b},
		// the if that is around is not the one that is open; or it has ended
		{4, 0x40, 2, 0x40, 5, 0x0b, 0x0b, 0x0b}, {4, 0x40, 0x0b, 5, 0x0b}, {4, 0x40, 5, 0x0b, 5, 0x0b},
		{4, 0x40, 5, 4, 0x40, 0x0b, 5, 0x0b, 0x0b}, {4, 0x40, 5, 3, 0x40, 5, 0x0b, 0x0b, 0x0b},
		// no end, or one too few
		{1}, {4}, {2, 0x40}, {2, 0x40, 0x0b}, {4, 0x40, 5, 0x0b}, {4, 0x40, 1, 5, 1, 0x0b, 1},
	} {
		isForm(t, b)
		hold(t, b, 0)
	}
	// What is behind the expression's own end is none of it.
	for _, b := range [][]byte{{0x0b, 0x0b}, {0x0b, 5}, {1, 0x0b, 5, 0x0b}, {4, 0x40, 0x0b, 0x0b, 5, 0x0b}} {
		hold(t, b, 0)
		if _, next, e := code.Expr(b, 0); e != api.OK || next == len(b) {
			t.Errorf("Expr(%x): %d, %v", b, next, e)
		}
	}
}

// P11.1: what may not stand behind an instruction.
func TestWrongKinds(t *testing.T) {
	for _, b := range [][]byte{
		// a block's type: no type's byte, signed numbers below 0 in forms of all lengths, above 2^32 - 1, too long
		{2, 0x41}, {2, 0x60}, {2, 0x6e}, {2, 0x71}, {2, 0x7a}, {4, 0x5f},
		{2, 0xc0, 0x7f}, {2, 0xff, 0x7f}, {2, 0xf0, 0x40}, {3, 0x80, 0x40}, {2, 0xff, 0xff, 0xff, 0xff, 0x7f}, {2, 0x80, 0x80, 0x80, 0x80, 0x70}, {2, 0xc0, 0xff, 0xff, 0xff, 0x7f},
		{2, 0x80, 0x80, 0x80, 0x80, 0x10}, {2, 0xff, 0xff, 0xff, 0xff, 0x1f}, {2, 0x80, 0x80, 0x80, 0x80, 0x80, 0},
		// memory's byte
		{0x3f, 1}, {0x3f, 0x80, 0}, {0x40, 0xff}, {0xfc, 11, 1}, {0xfc, 10, 0, 1}, {0xfc, 10, 1, 0}, {0xfc, 10, 0, 0x80, 0}, {0xfc, 8, 3, 1}, {0xfc, 8, 3, 0x80, 0},
		// numbers above 2^32 - 1, and too long ones
		{0x20, 0xff, 0xff, 0xff, 0xff, 0x1f}, {0x20, 0x80, 0x80, 0x80, 0x80, 0x10}, {0x20, 0x80, 0x80, 0x80, 0x80, 0x80, 0},
		{0x11, 1, 0xff, 0xff, 0xff, 0xff, 0x1f}, {0x28, 0, 0xff, 0xff, 0xff, 0xff, 0x1f}, {0x28, 0xff, 0xff, 0xff, 0xff, 0x1f, 0}, {0xfc, 9, 0xff, 0xff, 0xff, 0xff, 0x7f},
		{0x0e, 0, 0xff, 0xff, 0xff, 0xff, 0x1f}, {0x0e, 1, 0xff, 0xff, 0xff, 0xff, 0x1f, 0},
		// constants beyond their widths, and too long ones
		{0x41, 0xff, 0xff, 0xff, 0xff, 0x0f}, {0x41, 0x80, 0x80, 0x80, 0x80, 0x08}, {0x41, 0x80, 0x80, 0x80, 0x80, 0x77}, {0x41, 0xff, 0xff, 0xff, 0xff, 0x70}, {0x41, 0x80, 0x80, 0x80, 0x80, 0x80, 0}, {0x41, 0xff, 0xff, 0xff, 0xff, 0xff, 0x7f},
		row([]byte{0x42}, ff(9, 1)...), row([]byte{0x42}, row(bytes.Repeat([]byte{0x80}, 9), 0x7e)...), row([]byte{0x42}, row(bytes.Repeat([]byte{0x80}, 9), 0x40)...), row([]byte{0x42}, ff(10, 0x7f)...),
		// a reference's type, values' types
		{0xd0, 0x7f}, {0xd0, 0x7b}, {0xd0, 0x40}, {0xd0, 0}, {0xd0, 0xf0, 0}, {0x1c, 1, 0x60}, {0x1c, 2, 0x7f, 0x40}, {0x1c, 1, 0}, {0x1c, 1, 0xff, 0}, {0x1c, 3, 0x7f, 0x71, 0x7f},
	} {
		// Enough ends for each thing that might be left open, and for what might be taken as a part.
		isForm(t, row(b, 0x0b, 0x0b, 0x0b, 0x0b))
		hold(t, row(b, 0x0b, 0x0b, 0x0b, 0x0b), 0)
	}
}

// P11.1: counts that are greater than what is there, which cost nothing, and those that are just met.
func TestCounts(t *testing.T) {
	counts := [][]byte{{10}, {0x7f}, {0xff, 0x7f}, {0xff, 0xff, 0xff, 0x7f}, {0xff, 0xff, 0xff, 0xff, 7}, {0x80, 0x80, 0x80, 0x80, 8}, {0xff, 0xff, 0xff, 0xff, 0x0f}}
	tail := []byte{0x7f, 0x7f, 0x7f, 0x7f, 0x7f, 0x7f, 0x7f, 0x0b}
	var before, after runtime.MemStats
	runtime.ReadMemStats(&before)
	for _, o := range []byte{0x0e, 0x1c} {
		for _, n := range counts {
			for from := range tail {
				isForm(t, row(row([]byte{o}, n...), tail[from:]...))
			}
		}
	}
	runtime.ReadMemStats(&after)
	if n := after.TotalAlloc - before.TotalAlloc; n > 1<<22 {
		t.Errorf("%d bytes of memory for counts alone", n)
	}
	for n := range byte(10) {
		hold(t, row([]byte{0x0e, n}, tail...), 0)
		hold(t, row([]byte{0x1c, n}, tail...), 0)
		hold(t, row([]byte{0x0e, n}, bytes.Repeat([]byte{0x0b}, 9)...), 0)
	}
}

// nest is so many blocks, loops and ifs in one another, each within a Body or an Else, with the ends that they want.
func nest(n int, ends int) []byte {
	var b []byte
	for i := range n {
		switch i % 4 {
		case 0:
			b = append(b, 2, 0x40)
		case 1:
			b = append(b, 3, 0x7f)
		case 2:
			b = append(b, 4, 0)
		case 3:
			b = append(b, 1, 4, 0x40, 0, 5)
		}
	}
	return append(b, bytes.Repeat([]byte{0x0b}, ends)...)
}

// P11.1, P11.2: depth up to MaxNest, one above, and far above.
func TestDeep(t *testing.T) {
	for _, n := range []int{0, 1, 2, 3, 4, 5, 998, 999, 1000, 1001, 1002, 2000, 5000, 65536} {
		b := row(nest(n, n+1), 1)
		want := api.OK
		if n > 1000 {
			want = api.ErrLimit
		}
		l, next, e := code.Expr(b, 0)
		if e != want || e == api.OK && next != len(b)-1 || e != api.OK && (next != 0 || len(l) != 0) {
			t.Errorf("%d: Expr: %d, %v", n, next, e)
		}
		if e == api.OK && (code.Depth(l) != n || code.Count(l) != n+2*(n/4)) {
			t.Errorf("%d: Depth %d, Count %d", n, code.Depth(l), code.Count(l))
		}
		if next, depth, datas, e := code.Skip(b, 0); next != len(b)-1 || depth != n || datas || e != api.OK {
			t.Errorf("%d: Skip: %d, %d, %v, %v", n, next, depth, datas, e)
		}
		hold(t, b, 0)
	}
}

// P11.1: the depth is that of what is deepest, wherever it stands.
func TestDeepSomewhere(t *testing.T) {
	for _, n := range []int{1000, 1001} {
		deep := nest(n, n)
		for _, b := range [][]byte{
			row(row([]byte{2, 0x40, 0x0b, 1}, deep...), 2, 0x40, 0x0b, 0x0b),
			row(row(nest(20, 20), deep...), row(nest(20, 20), 0x0b)...),
			row(row([]byte{}, nest(n-1, n-1)...), row(deep, 0x0b)...),
			row(row([]byte{}, deep...), row(deep, 0x0b)...),
		} {
			hold(t, b, 0)
			if _, depth, _, e := code.Skip(b, 0); depth != n || e != api.OK {
				t.Errorf("Skip: %d, %v; want %d", depth, e, n)
			}
		}
	}
}

// P11.1: an expression that is too deep and is none further on is no expression, above all else.
func TestDeepAndWrong(t *testing.T) {
	for _, n := range []int{1000, 1001, 3000} {
		whole := nest(n, n+1)
		for _, ends := range []int{0, 1, n / 2, n - 1, n} {
			isForm(t, nest(n, ends))
		}
		for _, wrong := range [][]byte{{6}, {0xff}, {0x3f, 1}, {5}, {0x1c, 1, 0x60}, {2, 0x41}} {
			isForm(t, row(row(nest(n, 0), wrong...), bytes.Repeat([]byte{0x0b}, n+2)...))
			isForm(t, row(row(whole[:len(whole)-1], wrong...), 0x0b))
		}
		hold(t, row(whole[:len(whole)-1], 0xfc, 9, 5, 0x0b), 0)
	}
}

// P11.2: Skip tells of data segments, wherever they are named, and of nothing else.
func TestSkipDatas(t *testing.T) {
	for _, b := range [][]byte{{0xfc, 8, 0, 0}, {0xfc, 8, 5, 0}, {0xfc, 9, 0}, {0xfc, 0x89, 0x80, 0, 7}} {
		for _, whole := range [][]byte{
			row(b, 0x0b), row(b, 1, 0x0b), row(row([]byte{1}, b...), 0x0b),
			row(row([]byte{2, 0x40}, b...), 0x0b, 0x0b),
			row(row([]byte{4, 0x40, 1, 5, 3, 0x40}, b...), 0x0b, 0x0b, 1, 0x0b),
			row(row(nest(1500, 0), b...), bytes.Repeat([]byte{0x0b}, 1501)...),
		} {
			if next, _, datas, e := code.Skip(whole, 0); next != len(whole) || !datas || e != api.OK {
				t.Errorf("Skip(%x) = %d, %v, %v", whole, next, datas, e)
			}
		}
		// one that is behind the expression, and bytes that only look alike
		hold(t, row([]byte{1, 0x0b}, b...), 0)
		if _, _, datas, e := code.Skip(row([]byte{1, 0x0b}, b...), 0); datas || e != api.OK {
			t.Errorf("Skip: %v, %v", datas, e)
		}
	}
	for _, b := range [][]byte{{0xfc, 10, 0, 0, 0x0b}, {0xfc, 11, 0, 0x0b}, {0xfc, 12, 8, 9, 0x0b}, {0xfc, 13, 9, 0x0b}, {8: 0x0b}, {0x11, 8, 9, 0x0b}, {0x44, 0xfc, 9, 0, 0xfc, 8, 0, 0, 0, 0x0b}, {0xfd, 8, 0, 0, 0x0b}, {0xfd, 9, 0, 0, 0x0b}} {
		if _, _, datas, e := code.Skip(b, 0); datas || e != api.OK {
			t.Errorf("Skip(%x): %v, %v", b, datas, e)
		}
	}
}
