package code_test

import (
	"testing"

	"jacquard/api"
	"jacquard/code"
)

// dice tells numbers that follow no rule to be seen, always the same ones.
type dice uint64

// roll is a number below n.
func (d *dice) roll(n int) int {
	*d = *d*6364136223846793005 + 1442695040888963407
	return int(uint64(*d)>>33) % n
}

// pick is one of the list.
func pick[T any](d *dice, l ...T) T {
	return l[d.roll(len(l))]
}

// anyList is a list of instructions that may not be, most of them.
func anyList(d *dice, room int) []api.Instr {
	var l []api.Instr
	for range d.roll(4) {
		x := api.Instr{Op: pick[api.Op](d, 1, 2, 3, 4, 0x0e, 0x41, 0xfc07, 0xfc08, 0xfc09, 0xfc0a, 6, 0xffff)}
		if d.roll(12) > 0 && x.Op >= 0xfc08 {
			x.Op = 0x6a
		}
		if room > 0 && d.roll(2) == 0 {
			x.Body = anyList(d, room-1)
		}
		if room > 0 && d.roll(3) == 0 {
			x.Else = anyList(d, room-1)
		}
		x.A, x.L = uint32(d.roll(3)), make([]uint32, d.roll(2))
		l = append(l, x)
	}
	return l
}

// count is the document's words: how many instructions, with those within.
func count(l []api.Instr) int {
	n := len(l)
	for _, x := range l {
		n += count(x.Body) + count(x.Else)
	}
	return n
}

// depth is the document's words: 0, or 1 and the greatest depth within; what may not be within stands beside.
func depth(l []api.Instr) int {
	most := 0
	for _, x := range l {
		within := max(depth(x.Body), depth(x.Else))
		if x.Op == 2 || x.Op == 3 || x.Op == 4 {
			within++
		}
		most = max(most, within)
	}
	return most
}

// datas is the document's words: does one of them name a data segment.
func datas(l []api.Instr) bool {
	for _, x := range l {
		if x.Op == 0xfc08 || x.Op == 0xfc09 || datas(x.Body) || datas(x.Else) {
			return true
		}
	}
	return false
}

// P11.3: many lists, most of which may not be.
func TestAnyLists(t *testing.T) {
	d := dice(1)
	told := map[bool]int{}
	for range 20000 {
		l := anyList(&d, 6)
		if n := code.Count(l); n != count(l) {
			t.Fatalf("Count(%v) = %d, not %d", l, n, count(l))
		}
		if n := code.Depth(l); n != depth(l) {
			t.Fatalf("Depth(%v) = %d, not %d", l, n, depth(l))
		}
		if is := code.Datas(l); is != datas(l) {
			t.Fatalf("Datas(%v) = %v", l, is)
		}
		told[datas(l)]++
	}
	if told[true] < 1000 || told[false] < 1000 {
		t.Errorf("lists with and without data segments: %v", told)
	}
}

// P11.3: what is in an instruction in which nothing may be, by hand.
func TestWithinWhatMayNot(t *testing.T) {
	block := []api.Instr{{Op: 2, Body: []api.Instr{{Op: 3}}}}
	for _, c := range []struct {
		l            []api.Instr
		count, depth int
		datas        bool
	}{
		{nil, 0, 0, false},
		{[]api.Instr{{}}, 1, 0, false},
		{[]api.Instr{{Op: 1, Body: block}}, 3, 2, false},
		{[]api.Instr{{Op: 1, Else: block}}, 3, 2, false},
		{[]api.Instr{{Op: 6, Body: []api.Instr{{Op: 0xffff, Else: block}}}}, 4, 2, false},
		{[]api.Instr{{Op: 2, Else: block}}, 3, 3, false},
		{[]api.Instr{{Op: 3, Body: []api.Instr{{Op: 1}}, Else: block}}, 4, 3, false},
		{[]api.Instr{{Op: 4, Body: block, Else: block}, {Op: 1, Body: block}}, 8, 3, false},
		{[]api.Instr{{Op: 1, Body: []api.Instr{{Op: 0xfc08}}}}, 2, 0, true},
		{[]api.Instr{{Op: 2, Else: []api.Instr{{Op: 0xfc09}}}}, 2, 1, true},
		{[]api.Instr{{Op: 0xfc08}}, 1, 0, true},
		{[]api.Instr{{Op: 0xfc09}}, 1, 0, true},
		{[]api.Instr{{Op: 0xfc0a}, {Op: 0xfc07}, {Op: 8}, {Op: 9}, {Op: 0xfd08}, {Op: 0xfd09}, {Op: 0x41, N: 0xfc08}}, 7, 0, false},
	} {
		if n, d, is := code.Count(c.l), code.Depth(c.l), code.Datas(c.l); n != c.count || d != c.depth || is != c.datas {
			t.Errorf("%v: Count %d, Depth %d, Datas %v", c.l, n, d, is)
		}
	}
}

// P11.3: Depth above MaxNest, where what may not be within counts no more than what is beside.
func TestDepthAbove(t *testing.T) {
	for _, n := range []int{999, 1000, 1001, 2000} {
		l := deep(n)
		for range 30 {
			l = []api.Instr{{Op: 1, Body: l}, {Op: 2}}
		}
		if d := code.Depth(l); d != min(n, 1001) {
			t.Errorf("%d: Depth %d", n, d)
		}
		if d := code.Depth([]api.Instr{{Op: 1}, {Op: 4, Else: l}, {Op: 1, Else: l}}); d != min(n+1, 1001) {
			t.Errorf("%d and 1: Depth %d", n, d)
		}
	}
	var l []api.Instr
	for range 60000 {
		l = []api.Instr{{Op: 1, Else: l}}
	}
	if code.Depth(l) != 0 || code.Count(l) != 60000 || code.Datas(l) || !code.Same(l, l) || code.May(l) {
		t.Errorf("nops in one another: Depth %d, Count %d", code.Depth(l), code.Count(l))
	}
}

// wraps is ways to put an instruction far within others, also where it may not be.
func wraps() []func(api.Instr) []api.Instr {
	within := func(o api.Op) func(api.Instr) []api.Instr {
		return func(x api.Instr) []api.Instr {
			return []api.Instr{{Op: o, Body: []api.Instr{{Op: 2}, {Op: o, Else: []api.Instr{{Op: 1}, x}}}}, {Op: 0}}
		}
	}
	return []func(api.Instr) []api.Instr{
		func(x api.Instr) []api.Instr { return []api.Instr{x} },
		func(x api.Instr) []api.Instr { return []api.Instr{{Op: 1}, x, {Op: 1}} },
		within(2), within(4), within(1), within(0xffff),
		func(x api.Instr) []api.Instr {
			l := []api.Instr{x}
			for range 1200 {
				l = []api.Instr{{Op: 3, Body: l}}
			}
			return l
		},
	}
}

// P11.3: each field unlike, also far within.
func TestSame(t *testing.T) {
	full := api.Instr{Op: 2, A: 1, B: 2, N: 3, V: [16]byte{4}, L: words(5), T: vals(api.I64), Block: api.Block{Kind: 1, Val: api.F32, Type: 6}, Body: []api.Instr{{Op: 7}}, Else: []api.Instr{{Op: 8}}}
	others := map[string]func(*api.Instr){
		"Op": func(x *api.Instr) { x.Op = 0x102 },
		"A":  func(x *api.Instr) { x.A ^= 1 << 31 }, "B": func(x *api.Instr) { x.B ^= 1 << 31 }, "N": func(x *api.Instr) { x.N ^= 1 << 63 },
		"V0": func(x *api.Instr) { x.V[0]++ }, "V15": func(x *api.Instr) { x.V[15]++ },
		"L": func(x *api.Instr) { x.L = words(6) }, "L longer": func(x *api.Instr) { x.L = words(5, 0) }, "L none": func(x *api.Instr) { x.L = nil },
		"T": func(x *api.Instr) { x.T = vals(0) }, "T longer": func(x *api.Instr) { x.T = vals(api.I64, api.I64) }, "T none": func(x *api.Instr) { x.T = nil },
		"Kind": func(x *api.Instr) { x.Block.Kind = 2 }, "Val": func(x *api.Instr) { x.Block.Val = api.F64 }, "Type": func(x *api.Instr) { x.Block.Type++ },
		"Body": func(x *api.Instr) { x.Body = []api.Instr{{Op: 8}} }, "Body longer": func(x *api.Instr) { x.Body = []api.Instr{{Op: 7}, {}} }, "Body none": func(x *api.Instr) { x.Body = nil },
		"Else": func(x *api.Instr) { x.Else = []api.Instr{{Op: 7}} }, "Else longer": func(x *api.Instr) { x.Else = []api.Instr{{Op: 8}, {}} }, "Else none": func(x *api.Instr) { x.Else = nil },
		"turned": func(x *api.Instr) { x.Body, x.Else = x.Else, x.Body },
	}
	for i, wrap := range wraps() {
		for _, x := range []api.Instr{full, {}, {Op: 1}} {
			if !code.Same(wrap(x), plain(wrap(x))) {
				t.Errorf("%d: %v is not the same", i, x)
			}
		}
		for name, change := range others {
			x := full
			change(&x)
			if code.Same(wrap(full), wrap(x)) || code.Same(wrap(x), wrap(full)) {
				t.Errorf("%d: the same with another %s", i, name)
			}
		}
		if l := wrap(full); code.Same(l, l[:len(l)-1]) || code.Same(l, append(l[:len(l):len(l)], api.Instr{})) || code.Same(nil, l) || code.Same(l, nil) {
			t.Errorf("%d: the same with more or less", i)
		}
	}
	if !code.Same(nil, nil) || !code.Same(nil, []api.Instr{}) || code.Same(nil, []api.Instr{{}}) {
		t.Error("Same of no instructions")
	}
}

// P11.3: Same of any two lists.
func TestSameAny(t *testing.T) {
	d := dice(2)
	for range 5000 {
		a, b := anyList(&d, 3), anyList(&d, 3)
		if code.Same(a, b) != equal(a, b) || !code.Same(a, plain(a)) {
			t.Fatalf("Same(%v, %v) = %v", a, b, code.Same(a, b))
		}
	}
}
