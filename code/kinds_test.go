package code_test

import (
	"bytes"
	"testing"

	"jacquard/api"
	"jacquard/code"
	"jacquard/ops"
)

// kindCase is the bytes of an instruction, and it.
type kindCase struct {
	b []byte
	x api.Instr
}

func vals(l ...api.ValType) []api.ValType { return l }

func words(l ...uint32) []uint32 { return l }

// ff is so many bytes ff, and those behind them.
func ff(n int, behind ...byte) []byte {
	return append(bytes.Repeat([]byte{0xff}, n), behind...)
}

// row is bytes, and further ones behind them.
func row(b []byte, behind ...byte) []byte {
	return append(append([]byte(nil), b...), behind...)
}

const (
	word = 1<<32 - 1
	long = 1<<64 - 1
)

// shortKinds is each kind of what stands behind an instruction, its numbers in the short form.
func shortKinds() []kindCase {
	sixteen := [16]byte{0xff, 1, 2, 3, 4, 5, 6, 7, 8, 9, 10, 0x0b, 12, 13, 14, 0x80}
	return []kindCase{
		// none
		{[]byte{0x00}, api.Instr{Op: 0}},
		{[]byte{0x01}, api.Instr{Op: 1}},
		{[]byte{0x6a}, api.Instr{Op: 0x6a}},
		{[]byte{0xd1}, api.Instr{Op: 0xd1}},
		{[]byte{0xfc, 0}, api.Instr{Op: 0xfc00}},
		{[]byte{0xfd, 0x7f}, api.Instr{Op: 0xfd7f}},
		{[]byte{0xfd, 0x80, 1}, api.Instr{Op: 0xfd80}},
		{[]byte{0xfd, 0xff, 1}, api.Instr{Op: 0xfdff}},
		// label, func, local, global, table, elem, data
		{[]byte{0x0c, 0}, api.Instr{Op: 0x0c}},
		{[]byte{0x0d, 5}, api.Instr{Op: 0x0d, A: 5}},
		{[]byte{0x10, 0x0b}, api.Instr{Op: 0x10, A: 11}},
		{[]byte{0xd2, 0x80, 1}, api.Instr{Op: 0xd2, A: 128}},
		{row([]byte{0x20}, ff(4, 0x0f)...), api.Instr{Op: 0x20, A: word}},
		{[]byte{0x24, 0x7f}, api.Instr{Op: 0x24, A: 127}},
		{[]byte{0x25, 1}, api.Instr{Op: 0x25, A: 1}},
		{[]byte{0xfc, 16, 2}, api.Instr{Op: 0xfc10, A: 2}},
		{[]byte{0xfc, 13, 3}, api.Instr{Op: 0xfc0d, A: 3}},
		{[]byte{0xfc, 9, 0xc0, 0xbb, 0x78}, api.Instr{Op: 0xfc09, A: 0x1e1dc0}},
		// labels
		{[]byte{0x0e, 0, 7}, api.Instr{Op: 0x0e, L: words(7)}},
		{[]byte{0x0e, 3, 1, 0, 0x80, 1, 2}, api.Instr{Op: 0x0e, L: words(1, 0, 128, 2)}},
		{row([]byte{0x0e, 1}, row(ff(4, 0x0f), ff(4, 0x0f)...)...), api.Instr{Op: 0x0e, L: words(word, word)}},
		// type and table; elem and table; two tables
		{[]byte{0x11, 2, 3}, api.Instr{Op: 0x11, A: 2, B: 3}},
		{[]byte{0xfc, 12, 4, 5}, api.Instr{Op: 0xfc0c, A: 4, B: 5}},
		{row([]byte{0xfc, 14, 6}, ff(4, 0x0f)...), api.Instr{Op: 0xfc0e, A: 6, B: word}},
		// memory; two memories; data and memory
		{[]byte{0x3f, 0}, api.Instr{Op: 0x3f}},
		{[]byte{0x40, 0}, api.Instr{Op: 0x40}},
		{[]byte{0xfc, 11, 0}, api.Instr{Op: 0xfc0b}},
		{[]byte{0xfc, 10, 0, 0}, api.Instr{Op: 0xfc0a}},
		{[]byte{0xfc, 8, 3, 0}, api.Instr{Op: 0xfc08, A: 3}},
		// place; place and lane
		{[]byte{0x28, 2, 0x80, 1}, api.Instr{Op: 0x28, A: 2, N: 128}},
		{row([]byte{0x3e}, row(ff(4, 0x0f), ff(4, 0x0f)...)...), api.Instr{Op: 0x3e, A: word, N: word}},
		{[]byte{0xfd, 0, 4, 8}, api.Instr{Op: 0xfd00, A: 4, N: 8}},
		{[]byte{0xfd, 0x54, 0, 5, 7}, api.Instr{Op: 0xfd54, N: 5, B: 7}},
		{[]byte{0xfd, 0x5b, 3, 0, 255}, api.Instr{Op: 0xfd5b, A: 3, B: 255}},
		// lane; sixteen lanes, v128's constant
		{[]byte{0xfd, 0x15, 0}, api.Instr{Op: 0xfd15}},
		{[]byte{0xfd, 0x22, 255}, api.Instr{Op: 0xfd22, B: 255}},
		{row([]byte{0xfd, 13}, sixteen[:]...), api.Instr{Op: 0xfd0d, V: sixteen}},
		{row([]byte{0xfd, 12}, sixteen[:]...), api.Instr{Op: 0xfd0c, V: sixteen}},
		// i32's constant
		{[]byte{0x41, 0}, api.Instr{Op: 0x41}},
		{[]byte{0x41, 0x3f}, api.Instr{Op: 0x41, N: 63}},
		{[]byte{0x41, 0xc0, 0}, api.Instr{Op: 0x41, N: 64}},
		{[]byte{0x41, 0x7f}, api.Instr{Op: 0x41, N: word}},
		{[]byte{0x41, 0x40}, api.Instr{Op: 0x41, N: word - 63}},
		{[]byte{0x41, 0xff, 0xff, 0xff, 0xff, 7}, api.Instr{Op: 0x41, N: 1<<31 - 1}},
		{[]byte{0x41, 0x80, 0x80, 0x80, 0x80, 0x78}, api.Instr{Op: 0x41, N: 1 << 31}},
		// i64's constant
		{[]byte{0x42, 0}, api.Instr{Op: 0x42}},
		{[]byte{0x42, 0x7f}, api.Instr{Op: 0x42, N: long}},
		{[]byte{0x42, 0x80, 0x80, 0x80, 0x80, 8}, api.Instr{Op: 0x42, N: 1 << 31}},
		{row([]byte{0x42}, ff(9, 0)...), api.Instr{Op: 0x42, N: 1<<63 - 1}},
		{row([]byte{0x42}, row(bytes.Repeat([]byte{0x80}, 9), 0x7f)...), api.Instr{Op: 0x42, N: 1 << 63}},
		// f32's, f64's constant
		{[]byte{0x43, 1, 2, 3, 4}, api.Instr{Op: 0x43, N: 0x04030201}},
		{row([]byte{0x43}, ff(4)...), api.Instr{Op: 0x43, N: word}},
		{[]byte{0x44, 1, 2, 3, 4, 5, 6, 7, 8}, api.Instr{Op: 0x44, N: 0x0807060504030201}},
		{row([]byte{0x44}, ff(8)...), api.Instr{Op: 0x44, N: long}},
		// reference; types
		{[]byte{0xd0, 0x70}, api.Instr{Op: 0xd0, T: vals(api.FuncRef)}},
		{[]byte{0xd0, 0x6f}, api.Instr{Op: 0xd0, T: vals(api.ExternRef)}},
		{[]byte{0x1c, 0}, api.Instr{Op: 0x1c}},
		{[]byte{0x1c, 1, 0x7f}, api.Instr{Op: 0x1c, T: vals(api.I32)}},
		{[]byte{0x1c, 7, 0x7f, 0x7e, 0x7d, 0x7c, 0x7b, 0x70, 0x6f}, api.Instr{Op: 0x1c, T: vals(api.I32, api.I64, api.F32, api.F64, api.V128, api.FuncRef, api.ExternRef)}},
	}
}

// shortBlocks is each kind of a block's type, and of what is within, in the short form.
func shortBlocks() []kindCase {
	nop, unreachable := []api.Instr{{Op: 1}}, []api.Instr{{Op: 0}}
	typed := func(n uint32) api.Block { return api.Block{Kind: api.BlockType, Type: n} }
	val := func(t api.ValType) api.Block { return api.Block{Kind: api.BlockVal, Val: t} }
	return []kindCase{
		{[]byte{2, 0x40, 0x0b}, api.Instr{Op: 2}},
		{[]byte{3, 0x40, 1, 0x0b}, api.Instr{Op: 3, Body: nop}},
		{[]byte{2, 0x7f, 0x0b}, api.Instr{Op: 2, Block: val(api.I32)}},
		{[]byte{2, 0x7e, 0x0b}, api.Instr{Op: 2, Block: val(api.I64)}},
		{[]byte{2, 0x7d, 0x0b}, api.Instr{Op: 2, Block: val(api.F32)}},
		{[]byte{2, 0x7c, 0x0b}, api.Instr{Op: 2, Block: val(api.F64)}},
		{[]byte{3, 0x7b, 0x0b}, api.Instr{Op: 3, Block: val(api.V128)}},
		{[]byte{3, 0x70, 0x0b}, api.Instr{Op: 3, Block: val(api.FuncRef)}},
		{[]byte{4, 0x6f, 0x0b}, api.Instr{Op: 4, Block: val(api.ExternRef)}},
		{[]byte{2, 0, 0x0b}, api.Instr{Op: 2, Block: typed(0)}},
		{[]byte{3, 0x0b, 0x0b}, api.Instr{Op: 3, Block: typed(11)}},
		{[]byte{4, 5, 5, 1, 0x0b}, api.Instr{Op: 4, Block: typed(5), Else: nop}},
		{[]byte{2, 0x3f, 0x0b}, api.Instr{Op: 2, Block: typed(63)}},
		{[]byte{2, 0xc0, 0, 0x0b}, api.Instr{Op: 2, Block: typed(64)}},
		{[]byte{2, 0xff, 0, 0x0b}, api.Instr{Op: 2, Block: typed(127)}},
		{[]byte{2, 0xff, 0x3f, 0x0b}, api.Instr{Op: 2, Block: typed(8191)}},
		{[]byte{2, 0x80, 0xc0, 0, 0x0b}, api.Instr{Op: 2, Block: typed(8192)}},
		{[]byte{2, 0xff, 0xff, 0xff, 0xff, 0x07, 0x0b}, api.Instr{Op: 2, Block: typed(1<<31 - 1)}},
		{[]byte{2, 0x80, 0x80, 0x80, 0x80, 0x08, 0x0b}, api.Instr{Op: 2, Block: typed(1 << 31)}},
		{[]byte{2, 0xff, 0xff, 0xff, 0xff, 0x0f, 0x0b}, api.Instr{Op: 2, Block: typed(word)}},
		{[]byte{4, 0x40, 0x0b}, api.Instr{Op: 4}},
		{[]byte{4, 0x40, 1, 0x0b}, api.Instr{Op: 4, Body: nop}},
		{[]byte{4, 0x40, 1, 5, 0, 0x0b}, api.Instr{Op: 4, Body: nop, Else: unreachable}},
		{[]byte{4, 0x40, 4, 0x40, 5, 1, 0x0b, 5, 0, 0x0b}, api.Instr{Op: 4, Body: []api.Instr{{Op: 4, Else: nop}}, Else: unreachable}},
		{[]byte{4, 0x40, 5, 4, 0x40, 1, 0x0b, 0, 0x0b}, api.Instr{Op: 4, Else: []api.Instr{{Op: 4, Body: nop}, {Op: 0}}}},
		{[]byte{2, 0x40, 3, 0x7f, 4, 0, 0x0b, 1, 0x0b, 0x0b}, api.Instr{Op: 2, Body: []api.Instr{{Op: 3, Block: val(api.I32), Body: []api.Instr{{Op: 4, Block: typed(0)}, {Op: 1}}}}}},
	}
}

// longKinds is instructions in forms that Put does not choose.
func longKinds() []kindCase {
	return []kindCase{
		{[]byte{0x20, 0x80, 0}, api.Instr{Op: 0x20}},
		{[]byte{0x20, 0x81, 0x80, 0x80, 0x80, 0}, api.Instr{Op: 0x20, A: 1}},
		{[]byte{0x0e, 0x81, 0, 0x82, 0, 0x83, 0x80, 0}, api.Instr{Op: 0x0e, L: words(2, 3)}},
		{[]byte{0x0e, 0x80, 0x80, 0x80, 0x80, 0, 9}, api.Instr{Op: 0x0e, L: words(9)}},
		{[]byte{0x11, 0x82, 0, 0x83, 0x80, 0}, api.Instr{Op: 0x11, A: 2, B: 3}},
		{[]byte{0xfc, 8, 0x83, 0, 0}, api.Instr{Op: 0xfc08, A: 3}},
		{[]byte{0x28, 0x82, 0, 0x88, 0x80, 0}, api.Instr{Op: 0x28, A: 2, N: 8}},
		{[]byte{0xfd, 0x54, 0x80, 0, 0x85, 0, 7}, api.Instr{Op: 0xfd54, N: 5, B: 7}},
		{[]byte{0x41, 0x80, 0}, api.Instr{Op: 0x41}},
		{[]byte{0x41, 0xff, 0x7f}, api.Instr{Op: 0x41, N: word}},
		{[]byte{0x41, 0xff, 0xff, 0xff, 0xff, 0x7f}, api.Instr{Op: 0x41, N: word}},
		{row([]byte{0x42}, ff(9, 0x7f)...), api.Instr{Op: 0x42, N: long}},
		{row([]byte{0x42}, row(bytes.Repeat([]byte{0x80}, 9), 0)...), api.Instr{Op: 0x42}},
		{[]byte{0x1c, 0x81, 0, 0x7e}, api.Instr{Op: 0x1c, T: vals(api.I64)}},
		// the number behind fc and fd
		{[]byte{0xfc, 0x80, 0}, api.Instr{Op: 0xfc00}},
		{[]byte{0xfc, 0x91, 0x80, 0x80, 0x80, 0, 4}, api.Instr{Op: 0xfc11, A: 4}},
		{[]byte{0xfd, 0xff, 0x81, 0}, api.Instr{Op: 0xfdff}},
		{[]byte{0xfd, 0xff, 0x81, 0x80, 0x80, 0}, api.Instr{Op: 0xfdff}},
		{[]byte{0xfd, 0xff, 0x00}, api.Instr{Op: 0xfd7f}},
		// a block's type; an if with 05 and nothing behind it
		{[]byte{2, 0x80, 0, 0x0b}, api.Instr{Op: 2, Block: api.Block{Kind: api.BlockType}}},
		{[]byte{2, 0x80, 0x80, 0x80, 0x80, 0, 0x0b}, api.Instr{Op: 2, Block: api.Block{Kind: api.BlockType}}},
		{[]byte{3, 0xc0, 0x80, 0, 0x0b}, api.Instr{Op: 3, Block: api.Block{Kind: api.BlockType, Type: 64}}},
		{[]byte{4, 0xff, 0x80, 0x80, 0x80, 0, 0x0b}, api.Instr{Op: 4, Block: api.Block{Kind: api.BlockType, Type: 127}}},
		{[]byte{4, 0x40, 5, 0x0b}, api.Instr{Op: 4}},
		{[]byte{4, 0x7f, 0x41, 1, 5, 0x0b}, api.Instr{Op: 4, Block: api.Block{Kind: api.BlockVal, Val: api.I32}, Body: []api.Instr{{Op: 0x41, N: 1}}}},
	}
}

// isRead holds Expr, at each of some places, and what is ahead of the expression and behind it, against what is wanted.
func isRead(t *testing.T, b []byte, want []api.Instr) {
	t.Helper()
	for _, ahead := range [][]byte{{}, {0x0b}, {2, 0x40}, {0x80, 5, 0xff}} {
		for _, behind := range [][]byte{{}, {0x0b}, {5, 0x0b}, {0xff, 0xff}, {1, 1, 0x0b}} {
			all := row(row(ahead, b...), behind...)
			l, next, e := code.Expr(all, len(ahead))
			if !equal(l, want) || next != len(ahead)+len(b) || e != api.OK {
				t.Errorf("Expr(%x, %d) = %v, %d, %v; want %v", all, len(ahead), l, next, e, want)
			}
			hold(t, all, len(ahead))
		}
	}
}

// isForm holds that no expression begins with these bytes, also where others are ahead of them.
func isForm(t *testing.T, b []byte) {
	t.Helper()
	for _, ahead := range [][]byte{{}, {0x41, 1, 0x0b}} {
		all := row(ahead, b...)
		if l, next, e := code.Expr(all, len(ahead)); len(l) != 0 || next != 0 || e != api.ErrForm {
			t.Errorf("Expr(%x, %d) = %v, %d, %v", all, len(ahead), l, next, e)
		}
		if next, depth, datas, e := code.Skip(all, len(ahead)); next != 0 || depth != 0 || datas || e != api.ErrForm {
			t.Errorf("Skip(%x, %d) = %d, %d, %v, %v", all, len(ahead), next, depth, datas, e)
		}
	}
}

// P11.1: each kind of what stands behind an instruction is read; no beginning of its bytes is an expression's.
func TestKindsRead(t *testing.T) {
	for _, c := range append(append(shortKinds(), shortBlocks()...), longKinds()...) {
		whole := row(c.b, 0x0b)
		isRead(t, whole, []api.Instr{c.x})
		isRead(t, row(row([]byte{1}, c.b...), 0x6a, 0x0b), []api.Instr{{Op: 1}, c.x, {Op: 0x6a}})
		isRead(t, row(row([]byte{2, 0x40}, c.b...), 0x0b, 0x0b), []api.Instr{{Op: 2, Body: []api.Instr{c.x}}})
		for n := range whole {
			isForm(t, whole[:n])
		}
	}
}

// P11.2: each kind is put, in the short form, and may be.
func TestKindsPut(t *testing.T) {
	for _, c := range append(shortKinds(), shortBlocks()...) {
		isPut(t, []api.Instr{c.x}, row(c.b, 0x0b))
		isPut(t, []api.Instr{{Op: 1}, c.x, {Op: 0x6a}}, row(row([]byte{1}, c.b...), 0x6a, 0x0b))
		isPut(t, []api.Instr{{Op: 4, Body: []api.Instr{c.x}, Else: []api.Instr{c.x, {Op: 0}}}}, row(row(row([]byte{4, 0x40}, c.b...), row([]byte{5}, c.b...)...), 0, 0x0b, 0x0b))
	}
}

func isPut(t *testing.T, l []api.Instr, want []byte) {
	t.Helper()
	if !code.May(l) {
		t.Errorf("May(%v) = false", l)
	}
	if b, e := code.Put(l); !bytes.Equal(b, want) || e != api.OK {
		t.Errorf("Put(%v) = %x, %v; want %x", l, b, e, want)
	}
}

// sample is bytes that may stand behind x, which is of the kind imm, and what they make of it.
func sample(x api.Instr, imm api.Imm) (behind []byte, made api.Instr) {
	sixteen := [16]byte{15: 9}
	switch imm {
	case api.ImmBlock:
		behind = []byte{0x40, 0x0b}
	case api.ImmLabel, api.ImmFunc, api.ImmLocal, api.ImmGlobal, api.ImmTable, api.ImmElem, api.ImmData:
		behind, x.A = []byte{6}, 6
	case api.ImmLabels:
		behind, x.L = []byte{1, 6, 7}, words(6, 7)
	case api.ImmTypeTable, api.ImmElemTable, api.ImmTables:
		behind, x.A, x.B = []byte{6, 7}, 6, 7
	case api.ImmDataMem:
		behind, x.A = []byte{6, 0}, 6
	case api.ImmMem:
		behind = []byte{0}
	case api.ImmMems:
		behind = []byte{0, 0}
	case api.ImmPlace:
		behind, x.A, x.N = []byte{6, 7}, 6, 7
	case api.ImmPlaceLane:
		behind, x.A, x.N, x.B = []byte{6, 7, 8}, 6, 7, 8
	case api.ImmLane:
		behind, x.B = []byte{6}, 6
	case api.ImmLanes, api.ImmV128:
		behind, x.V = sixteen[:], sixteen
	case api.ImmI32, api.ImmI64:
		behind, x.N = []byte{6}, 6
	case api.ImmF32:
		behind, x.N = []byte{6, 0, 0, 7}, 7<<24+6
	case api.ImmF64:
		behind, x.N = []byte{6, 0, 0, 0, 0, 0, 0, 7}, 7<<56+6
	case api.ImmRef:
		behind, x.T = []byte{0x70}, vals(api.FuncRef)
	case api.ImmTypes:
		behind, x.T = []byte{1, 0x7f}, vals(api.I32)
	}
	return behind, x
}

// opBytes is the bytes of an instruction's number.
func opBytes(o api.Op) []byte {
	switch {
	case o < 256:
		return []byte{byte(o)}
	case o%256 < 128:
		return []byte{byte(o / 256), byte(o % 256)}
	}
	return []byte{byte(o / 256), byte(o % 256), 1}
}

// P11.1, P11.2: each instruction that there is.
func TestEachInstruction(t *testing.T) {
	for _, o := range ops.All() {
		info, _ := ops.Of(o)
		behind, x := sample(api.Instr{Op: o}, info.Imm)
		b := row(row(opBytes(o), behind...), 0x0b)
		isRead(t, b, []api.Instr{x})
		isPut(t, []api.Instr{x}, b)
	}
}

// P11.1, P11.2: each byte, and each number behind fc and fd, that is no instruction's.
func TestNoInstruction(t *testing.T) {
	is := map[int]bool{}
	for _, o := range ops.All() {
		is[int(o)] = true
	}
	zeros := make([]byte, 20)
	for c := range 256 {
		if !is[c] && c != 0x0b && c != 0xfc && c != 0xfd {
			isForm(t, []byte{byte(c), 0x0b})
			isForm(t, row(row([]byte{byte(c)}, zeros...), 0x0b))
		}
	}
	for _, page := range []byte{0xfc, 0xfd} {
		for n := range 600 {
			if n < 256 && is[int(page)*256+n] {
				continue
			}
			b := []byte{page, byte(n%128 + 128), byte(n / 128)}
			isForm(t, row(b, 0x0b))
			isForm(t, row(row(b, zeros...), 0x0b))
		}
		// 256 times anything, 2^16, the greatest, one above, six groups
		isForm(t, []byte{page, 0x80, 0x80, 4, 0x0b, 0x0b, 0x0b})
		isForm(t, []byte{page, 0x80, 0x80, 0x80, 0x80, 0x08, 0x0b, 0x0b})
		isForm(t, row([]byte{page}, ff(4, 0x0f, 0x0b)...))
		isForm(t, row([]byte{page}, ff(4, 0x1f, 0x0b)...))
		isForm(t, []byte{page, 0x80, 0x80, 0x80, 0x80, 0x80, 0, 0x0b})
	}
	for o := range 1 << 16 {
		l := []api.Instr{{Op: api.Op(o), T: vals(api.FuncRef), L: words(0)}}
		if b, e := code.Put(l); !is[o] && (code.May(l) || len(b) != 0 || e != api.ErrArg) {
			t.Fatalf("Put(%x) = %x, %v", o, b, e)
		}
		if l[0].T, l[0].L = nil, nil; !is[o] && code.May(l) {
			t.Fatalf("May(%x)", o)
		}
	}
}
