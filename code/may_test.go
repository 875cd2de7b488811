package code_test

import (
	"testing"

	"jacquard/api"
	"jacquard/code"
	"jacquard/ops"
)

// mayNot holds that the list may not be an expression, also with others beside it and around it.
func mayNot(t *testing.T, x api.Instr) {
	t.Helper()
	nop := api.Instr{Op: 1}
	for _, l := range [][]api.Instr{
		{x}, {nop, x}, {x, nop}, {nop, x, nop},
		{{Op: 2, Body: []api.Instr{x}}}, {{Op: 3, Body: []api.Instr{nop, x}}, nop},
		{{Op: 4, Body: []api.Instr{x}, Else: []api.Instr{nop}}}, {nop, {Op: 4, Else: []api.Instr{nop, x}}},
	} {
		if code.May(l) {
			t.Errorf("May(%v) = true", l)
		}
		if b, e := code.Put(l); len(b) != 0 || e != api.ErrArg {
			t.Errorf("Put(%v) = %x, %v", l, b, e)
		}
	}
}

// mayBe holds that the instruction may be, and is read as it is put.
func mayBe(t *testing.T, x api.Instr) {
	t.Helper()
	l := []api.Instr{x}
	b, e := code.Put(l)
	if !code.May(l) || e != api.OK {
		t.Errorf("Put(%v) = %x, %v", l, b, e)
	}
	if again, next, e := code.Expr(b, 0); !equal(again, l) || next != len(b) || e != api.OK {
		t.Errorf("Expr(%x) = %v, %d, %v; want %v", b, again, next, e, l)
	}
}

// setters sets one field after another to something that is not zero, by the field's name.
func setters() map[string]func(*api.Instr) {
	return map[string]func(*api.Instr){
		"A":     func(x *api.Instr) { x.A++ },
		"B":     func(x *api.Instr) { x.B++ },
		"N":     func(x *api.Instr) { x.N++ },
		"V":     func(x *api.Instr) { x.V[0]++ },
		"V15":   func(x *api.Instr) { x.V[15]++ },
		"L":     func(x *api.Instr) { x.L = append(x.L, 0) },
		"T":     func(x *api.Instr) { x.T = append(x.T, api.I32) },
		"Kind":  func(x *api.Instr) { x.Block.Kind = api.BlockType },
		"Val":   func(x *api.Instr) { x.Block = api.Block{Kind: api.BlockVal, Val: api.I32} },
		"Val0":  func(x *api.Instr) { x.Block.Val = api.I32 },
		"Type0": func(x *api.Instr) { x.Block.Type = 1 },
		"Body":  func(x *api.Instr) { x.Body = []api.Instr{{Op: 1}} },
		"Else":  func(x *api.Instr) { x.Else = []api.Instr{{Op: 1}} },
	}
}

// has is the fields, by their names above, that the kind has beside what sample sets.
func has(o api.Op, imm api.Imm) map[string]bool {
	l := map[api.Imm][]string{
		api.ImmBlock: {"Kind", "Val", "Body"},
		api.ImmLabel: {"A"}, api.ImmFunc: {"A"}, api.ImmLocal: {"A"}, api.ImmGlobal: {"A"}, api.ImmTable: {"A"}, api.ImmElem: {"A"}, api.ImmData: {"A"}, api.ImmDataMem: {"A"},
		api.ImmLabels:    {"L"},
		api.ImmTypeTable: {"A", "B"}, api.ImmElemTable: {"A", "B"}, api.ImmTables: {"A", "B"},
		api.ImmPlace: {"A", "N"}, api.ImmPlaceLane: {"A", "N", "B"}, api.ImmLane: {"B"},
		api.ImmLanes: {"V", "V15"}, api.ImmV128: {"V", "V15"},
		api.ImmI32: {"N"}, api.ImmI64: {"N"}, api.ImmF32: {"N"}, api.ImmF64: {"N"},
		api.ImmTypes: {"T"},
	}[imm]
	names := map[string]bool{"Else": o == api.OpIf}
	for _, name := range l {
		names[name] = true
	}
	return names
}

// P11.2: each instruction with one field after another that is not zero.
func TestEachField(t *testing.T) {
	for _, o := range ops.All() {
		info, _ := ops.Of(o)
		fields := has(o, info.Imm)
		for name, set := range setters() {
			_, x := sample(api.Instr{Op: o}, info.Imm)
			set(&x)
			if fields[name] {
				mayBe(t, x)
			} else {
				mayNot(t, x)
			}
		}
	}
}

// P11.2: lists without elements are as those that are nil.
func TestEmptyLists(t *testing.T) {
	empty := api.Instr{L: []uint32{}, T: []api.ValType{}, Body: []api.Instr{}, Else: []api.Instr{}}
	for _, o := range []api.Op{0, 1, 2, 3, 4, 0x20, 0x6a, 0x1c, 0x41} {
		x := empty
		x.Op = o
		mayBe(t, x)
		if !code.Same([]api.Instr{x}, []api.Instr{{Op: o}}) {
			t.Errorf("%x: not the same with empty lists", o)
		}
	}
	l := empty
	l.Op = 0x0e
	mayNot(t, l)
	isPut(t, []api.Instr{{Op: 4, Else: []api.Instr{}}}, []byte{4, 0x40, 0x0b, 0x0b})
}

// P11.2: numbers that just fit, and those that just don't.
func TestFits(t *testing.T) {
	for _, o := range []api.Op{0x41, 0x43, 0x28, 0x3e, 0xfd00, 0xfd54} {
		mayBe(t, api.Instr{Op: o, N: 1<<32 - 1})
		for _, n := range []uint64{1 << 32, 1<<32 + 1, 1 << 33, 1 << 63, 1<<64 - 1} {
			mayNot(t, api.Instr{Op: o, N: n})
		}
	}
	for _, o := range []api.Op{0x42, 0x44} {
		for _, n := range []uint64{1 << 32, 1<<63 - 1, 1 << 63, 1<<64 - 1} {
			mayBe(t, api.Instr{Op: o, N: n})
		}
	}
	for _, o := range []api.Op{0xfd15, 0xfd22, 0xfd54, 0xfd5b} {
		mayBe(t, api.Instr{Op: o, B: 255})
		for _, n := range []uint32{256, 257, 512, 1 << 16, 1<<32 - 1} {
			mayNot(t, api.Instr{Op: o, B: n})
		}
	}
	mayBe(t, api.Instr{Op: 0x28, A: 1<<32 - 1})
	mayBe(t, api.Instr{Op: 0x11, A: 1<<32 - 1, B: 1<<32 - 1})
}

// P11.2: the types of ref.null and of select_t, whatever byte they are.
func TestTypes(t *testing.T) {
	for c := range 256 {
		v := api.ValType(c)
		ref := v == api.FuncRef || v == api.ExternRef
		if ref {
			mayBe(t, api.Instr{Op: 0xd0, T: vals(v)})
		} else {
			mayNot(t, api.Instr{Op: 0xd0, T: vals(v)})
		}
		if ref || v <= api.I32 && v >= api.V128 {
			mayBe(t, api.Instr{Op: 0x1c, T: vals(v)})
			mayBe(t, api.Instr{Op: 0x1c, T: vals(api.I32, v, api.F64)})
			mayBe(t, api.Instr{Op: 2, Block: api.Block{Kind: api.BlockVal, Val: v}})
		} else {
			mayNot(t, api.Instr{Op: 0x1c, T: vals(v)})
			mayNot(t, api.Instr{Op: 0x1c, T: vals(api.I32, v)})
			mayNot(t, api.Instr{Op: 0x1c, T: vals(v, api.I32)})
			mayNot(t, api.Instr{Op: 2, Block: api.Block{Kind: api.BlockVal, Val: v}})
		}
	}
	mayNot(t, api.Instr{Op: 0xd0})
	mayNot(t, api.Instr{Op: 0xd0, T: vals(api.FuncRef, api.FuncRef)})
	mayNot(t, api.Instr{Op: 0xd0, T: vals(api.FuncRef, 0)})
	mayNot(t, api.Instr{Op: 0x0e})
}

// P11.2: a block's type has what its kind says alone.
func TestBlockTypes(t *testing.T) {
	for _, o := range []api.Op{2, 3, 4} {
		for _, b := range []api.Block{{}, {Kind: api.BlockVal, Val: api.V128}, {Kind: api.BlockType}, {Kind: api.BlockType, Type: 1<<32 - 1}} {
			mayBe(t, api.Instr{Op: o, Block: b})
		}
		for _, b := range []api.Block{
			{Val: api.I32}, {Type: 1}, {Kind: api.BlockVal}, {Kind: api.BlockVal, Val: api.I32, Type: 1}, {Kind: api.BlockVal, Val: 0x40},
			{Kind: api.BlockType, Val: api.I32}, {Kind: api.BlockType, Val: api.I32, Type: 5}, {Kind: 3}, {Kind: 255}, {Kind: 3, Val: api.I32, Type: 1},
		} {
			mayNot(t, api.Instr{Op: o, Block: b})
		}
	}
}

// deep is so many blocks, loops and ifs in one another.
func deep(n int) []api.Instr {
	var l []api.Instr
	for i := range n {
		switch i % 3 {
		case 0:
			l = []api.Instr{{Op: 2, Body: l}}
		case 1:
			l = []api.Instr{{Op: 1}, {Op: 3, Body: l}}
		case 2:
			l = []api.Instr{{Op: 4, Body: []api.Instr{{Op: 1}}, Else: l}, {Op: 1}}
		}
	}
	return l
}

// P11.2, P11.3: lists up to MaxNest deep, one above, and far above.
func TestDeepLists(t *testing.T) {
	for _, n := range []int{0, 1, 2, 3, 999, 1000, 1001, 1002, 3000, 65000} {
		l := deep(n)
		b, e := code.Put(l)
		if may := n <= 1000; code.May(l) != may || may != (e == api.OK) || !may && (len(b) != 0 || e != api.ErrArg) {
			t.Errorf("%d: May %v, Put: %v", n, code.May(l), e)
		}
		if d := code.Depth(l); d != min(n, 1001) {
			t.Errorf("%d: Depth %d", n, d)
		}
		if code.Datas(l) || !code.Same(l, deep(n)) || code.Same(l, deep(n+1)) {
			t.Errorf("%d: Datas, Same", n)
		}
		if c := code.Count(l); c != n+(n+1)/3+2*(n/3) {
			t.Errorf("%d: Count %d", n, c)
		}
	}
}

// Rule 1: May and Depth end at lists that stand within themselves, as they are too deep.
func TestWithinItself(t *testing.T) {
	for _, o := range []api.Op{2, 3, 4} {
		l := []api.Instr{{Op: 1}, {Op: o}}
		l[1].Body = l
		if _, e := code.Put(l); code.May(l) || e != api.ErrArg || code.Depth(l) != 1001 {
			t.Errorf("%x: %v, %v, %d", o, code.May(l), e, code.Depth(l))
		}
	}
	l := []api.Instr{{Op: 1}}
	l[0].Body = l
	if code.May(l) {
		t.Error("a nop within itself may be")
	}
}
