package ops_test

import (
	"slices"
	"strings"
	"testing"

	"jacquard/api"
	"jacquard/ops"
)

// words is how many numbers an api.Op may be.
const words = 1 << 16

// vals is the types that the letters of the document stand for.
func vals(letters string) []api.ValType {
	var l []api.ValType
	for _, c := range letters {
		l = append(l, map[rune]api.ValType{'i': api.I32, 'l': api.I64, 'f': api.F32, 'd': api.F64, 'v': api.V128}[c])
	}
	return l
}

// gaps is the numbers that are none, from the first to the last one of each row, as the document's tables leave them out.
func gaps() [][2]int {
	return [][2]int{
		{0x05, 0x0b}, {0x12, 0x19}, {0x1d, 0x1f}, {0x27, 0x27}, {0xc5, 0xcf}, {0xd3, 0xfbff},
		{0xfc12, 0xfcff},
		{0xfd9a, 0xfd9a}, {0xfda2, 0xfda2}, {0xfda5, 0xfda6}, {0xfdaf, 0xfdb0}, {0xfdb2, 0xfdb4}, {0xfdbb, 0xfdbb},
		{0xfdc2, 0xfdc2}, {0xfdc5, 0xfdc6}, {0xfdcf, 0xfdd0}, {0xfdd2, 0xfdd4}, {0xfde2, 0xfde2}, {0xfdee, 0xfdee},
		{0xfe00, 0xffff},
	}
}

// isNone tells whether x and e are the answer for what is not there.
func isNone(x api.Info, e api.Errno) bool {
	return e == api.ErrNone && x.Op == 0 && x.Name == "" && x.Imm == 0 && len(x.From) == 0 && len(x.To) == 0 && x.Bits == 0 && !x.Plain
}

// is tells whether x says what the row says.
func (r row) is(x api.Info) bool {
	return x.Op == r.op && x.Name == r.name && x.Imm == r.imm && slices.Equal(x.From, vals(r.from)) && slices.Equal(x.To, vals(r.to)) && x.Bits == r.bits && x.Plain == r.plain
}

// The table of the tests itself: 435 rows, which the gaps leave over.
func TestTable(t *testing.T) {
	told := map[api.Op]int{}
	for _, r := range table() {
		told[r.op]++
	}
	if len(table()) != 435 || len(told) != 435 {
		t.Fatalf("%d rows of %d numbers", len(table()), len(told))
	}
	none := 0
	for _, g := range gaps() {
		for n := g[0]; n <= g[1]; n++ {
			none++
			if told[api.Op(n)] != 0 {
				t.Errorf("%x is in a gap", n)
			}
		}
	}
	if none != words-435 {
		t.Errorf("%d numbers are in gaps", none)
	}
}

// P10.1: each instruction, field by field.
func TestOf(t *testing.T) {
	for _, r := range table() {
		if x, e := ops.Of(r.op); e != api.OK || !r.is(x) {
			t.Errorf("Of(%x) = %v, %d, not %v", r.op, x, e, r)
		}
	}
}

// P10.1: the document's examples.
func TestOfExamples(t *testing.T) {
	x, e := ops.Of(0x6a)
	if e != api.OK || x.Name != "i32.add" || !slices.Equal(x.From, []api.ValType{0x7f, 0x7f}) || !slices.Equal(x.To, []api.ValType{0x7f}) {
		t.Errorf("Of(6a) = %v, %d", x, e)
	}
	if x, e := ops.Of(0xfdba); e != api.OK || x.Name != "i32x4.dot_i16x8_s" {
		t.Errorf("Of(fdba) = %v, %d", x, e)
	}
	if x, e := ops.Of(0x28); e != api.OK || x.Imm != api.ImmPlace || x.Bits != 32 {
		t.Errorf("Of(28) = %v, %d", x, e)
	}
	if x, e := ops.Of(0x1c); e != api.OK || x.Name != "select_t" {
		t.Errorf("Of(1c) = %v, %d", x, e)
	}
	for _, o := range []api.Op{0x06, 0xfd9a, 0xfc12} {
		if x, e := ops.Of(o); !isNone(x, e) {
			t.Errorf("Of(%x) = %v, %d", o, x, e)
		}
	}
}

// P10.1: the numbers that are none.
func TestOfNone(t *testing.T) {
	for _, g := range gaps() {
		for n := g[0]; n <= g[1]; n++ {
			if x, e := ops.Of(api.Op(n)); !isNone(x, e) {
				t.Errorf("Of(%x) = %v, %d", n, x, e)
			}
		}
	}
}

// P10.1: numbers at the ends of the table and of its families, by hand.
func TestOfEnds(t *testing.T) {
	for o, name := range map[api.Op]string{
		0x00: "unreachable", 0x04: "if", 0x05: "", 0x06: "", 0x0b: "", 0x0c: "br", 0x11: "call_indirect", 0x12: "", 0x19: "", 0x1a: "drop", 0x1c: "select_t", 0x1d: "", 0x1f: "",
		0x20: "local.get", 0x26: "table.set", 0x27: "", 0x28: "i32.load", 0x40: "memory.grow", 0x41: "i32.const", 0xc4: "i64.extend32_s", 0xc5: "", 0xcf: "", 0xd0: "ref.null", 0xd2: "ref.func", 0xd3: "",
		0xfb: "", 0xfc: "", 0xfd: "", 0xfe: "", 0xff: "", 0x100: "", 0x16a: "", 0xfbff: "",
		0xfc00: "i32.trunc_sat_f32_s", 0xfc07: "i64.trunc_sat_f64_u", 0xfc08: "memory.init", 0xfc11: "table.fill", 0xfc12: "", 0xfc6a: "", 0xfcff: "",
		0xfd00: "v128.load", 0xfd99: "i16x8.max_u", 0xfd9a: "", 0xfd9b: "i16x8.avgr_u", 0xfda1: "i32x4.neg", 0xfda2: "", 0xfda3: "i32x4.all_true",
		0xfdae: "i32x4.add", 0xfdaf: "", 0xfdb0: "", 0xfdb1: "i32x4.sub", 0xfdb2: "", 0xfdb4: "", 0xfdb5: "i32x4.mul",
		0xfdb9: "i32x4.max_u", 0xfdba: "i32x4.dot_i16x8_s", 0xfdbb: "", 0xfdbc: "i32x4.extmul_low_i16x8_s",
		0xfdd5: "i64x2.mul", 0xfdd6: "i64x2.eq", 0xfde1: "f32x4.neg", 0xfde2: "", 0xfde3: "f32x4.sqrt", 0xfded: "f64x2.neg", 0xfdee: "", 0xfdef: "f64x2.sqrt",
		0xfdff: "f64x2.convert_low_i32x4_u", 0xfe00: "", 0xff00: "", 0xffff: "",
	} {
		x, e := ops.Of(o)
		if name == "" && !isNone(x, e) || name != "" && (x.Name != name || x.Op != o || e != api.OK) {
			t.Errorf("Of(%x) = %v, %d", o, x, e)
		}
	}
}

// P10.1: numbers that share their lower byte with an instruction, but not their higher one.
func TestOfOtherHighBytes(t *testing.T) {
	for high := range 0x100 {
		if high == 0 || high == 0xfc || high == 0xfd {
			continue
		}
		for low := range 0x100 {
			o := api.Op(high<<8 | low)
			if x, e := ops.Of(o); !isNone(x, e) {
				t.Errorf("Of(%x) = %v, %d", o, x, e)
			}
		}
	}
}

// P10.1: what only some have.
func TestOfFields(t *testing.T) {
	imms := map[api.Imm]int{}
	for _, r := range table() {
		x, _ := ops.Of(r.op)
		imms[x.Imm]++
		moves := strings.Contains(r.name, ".load") || strings.Contains(r.name, ".store")
		if moves != (x.Bits != 0) {
			t.Errorf("%s moves %d bits", r.name, x.Bits)
		}
		if moves != (x.Imm == api.ImmPlace || x.Imm == api.ImmPlaceLane) {
			t.Errorf("%s: Imm %d", r.name, x.Imm)
		}
		if strings.HasSuffix(r.name, ".const") != slices.Contains([]api.Imm{api.ImmI32, api.ImmI64, api.ImmF32, api.ImmF64, api.ImmV128}, x.Imm) {
			t.Errorf("%s: Imm %d", r.name, x.Imm)
		}
		if (strings.Contains(r.name, "_lane") && !moves) != (x.Imm == api.ImmLane) {
			t.Errorf("%s: Imm %d", r.name, x.Imm)
		}
		if x.Plain && (x.Imm == api.ImmPlace || x.Imm == api.ImmPlaceLane || x.Bits != 0) {
			t.Errorf("%s is plain, and moves", r.name)
		}
	}
	for imm, n := range map[api.Imm]int{
		api.ImmBlock: 3, api.ImmLabel: 2, api.ImmLabels: 1, api.ImmFunc: 2, api.ImmTypeTable: 1, api.ImmLocal: 3, api.ImmGlobal: 2,
		api.ImmTable: 5, api.ImmElemTable: 1, api.ImmElem: 1, api.ImmTables: 1, api.ImmData: 1, api.ImmDataMem: 1, api.ImmMem: 3, api.ImmMems: 1,
		api.ImmPlace: 37, api.ImmPlaceLane: 8, api.ImmLane: 14, api.ImmLanes: 1,
		api.ImmI32: 1, api.ImmI64: 1, api.ImmF32: 1, api.ImmF64: 1, api.ImmV128: 1, api.ImmRef: 1, api.ImmTypes: 1,
	} {
		if imms[imm] != n {
			t.Errorf("%d have the Imm %d, not %d", imms[imm], imm, n)
		}
	}
}

// numbers is the table's numbers by its names.
func numbers() map[string]api.Op {
	m := map[string]api.Op{}
	for _, r := range table() {
		m[r.name] = r.op
	}
	return m
}

// asNamed tells whether Named answers what m says of the name.
func asNamed(t *testing.T, m map[string]api.Op, name string) {
	t.Helper()
	o, e := ops.Named(name)
	want, ok := m[name]
	if ok && (o != want || e != api.OK) || !ok && (o != 0 || e != api.ErrNone) {
		t.Errorf("Named(%q) = %x, %d", name, o, e)
	}
}

// P10.2: each name.
func TestNamed(t *testing.T) {
	for _, r := range table() {
		if o, e := ops.Named(r.name); o != r.op || e != api.OK {
			t.Errorf("Named(%s) = %x, %d, not %x", r.name, o, e, r.op)
		}
	}
	if o, e := ops.Named("i16x8.extmul_high_i8x16_u"); o != 0xfd9f || e != api.OK {
		t.Errorf("Named(i16x8.extmul_high_i8x16_u) = %x, %d", o, e)
	}
}

// P10.2: names that are none, by hand.
func TestNamedNone(t *testing.T) {
	for _, name := range []string{
		"", " ", ".", "\x00", "i32", "i32.", ".add", "add", "eq", "ne", "ge_u", "get", "set", "tee", "load", "load8_u", "store16", "splat", "popcnt", "bitmask", "xor",
		"else", "end", "select_", "t", "br_", "unreachable nop", "block loop", "nop unreachable", "drop.select", "unreachable.nop", "br.br_if",
		"i32.eq ne", "i32.eq i32.ne", "eq ne", "i32.eq\tne", "i32.eq,i32.ne", "i8x16.splat i16x8.splat", "i32.i32.add", "i32..add", "i32.add.", "i32.i64.add",
		"I32.ADD", "I32.add", "i32.Add", "Nop", "NOP", " i32.add", "i32.add ", "i32 add", "i32. add", "i32 .add", "i32.add\n", "i32_add", "i32/add", "i32.add\x00",
		"i64x2.lt_u", "i64x2.gt_u", "i64x2.le_u", "i64x2.ge_u", "i64x2.min_s", "i64x2.popcnt", "i8x16.mul", "i16x8.popcnt", "i32x4.avgr_u", "i32x4.add_sat_s",
		"i32.extend32_s", "i32.load32_u", "i32.store32", "i64.wrap_i64", "i32.load64", "f32.clz", "i32.abs", "f32x4.copysign", "f64x2.demote_f64x2_zero",
		"local.fill", "global.tee", "table.tee", "memory.drop", "memory.set", "table.drop", "elem.init", "data.init", "ref.is", "v128.xnor", "v128.load128", "v128.store_lane",
		"i32x4.extract_lane_s", "f32x4.trunc_sat_f32x4_s", "f64x2.convert_low_i32x4_s _u", "_u", "i16x8.extadd_pairwise_i8x16_s, _u", "i32.lt", "f32.lt_s",
	} {
		if o, e := ops.Named(name); o != 0 || e != api.ErrNone {
			t.Errorf("Named(%q) = %x, %d", name, o, e)
		}
	}
}

// P10.2: what is near each name, and is one only where the table has it.
func TestNamedNear(t *testing.T) {
	m := numbers()
	for _, r := range table() {
		n := r.name
		_, own, _ := strings.Cut(n, ".")
		for _, name := range []string{
			n[1:], n[:len(n)-1], n + "s", n + "u", n + "x", n + "_s", "i" + n, "x" + n, n + n, n + "." + own,
			strings.ToUpper(n), strings.ToUpper(n[:1]) + n[1:], " " + n, n + " ", n[:1] + " " + n[1:], strings.Replace(n, ".", " ", 1), strings.Replace(n, ".", "", 1), own,
		} {
			asNamed(t, m, name)
		}
	}
}

// P10.2: each two names whose numbers are neighbours, as they may stand beside each other in a list.
func TestNamedTwo(t *testing.T) {
	m := numbers()
	l := table()
	slices.SortFunc(l, func(a, b row) int { return int(a.op) - int(b.op) })
	for i := range len(l) - 1 {
		a, b := l[i].name, l[i+1].name
		_, own, _ := strings.Cut(b, ".")
		_, ahead, _ := strings.Cut(a, ".")
		for _, name := range []string{a + " " + b, a + " " + own, ahead + " " + own, ahead + " " + b, a + b, a + own} {
			asNamed(t, m, name)
		}
	}
}

// P10.2: what stands behind a point, behind all that stands ahead of one.
func TestNamedMixed(t *testing.T) {
	m := numbers()
	heads, owns := map[string]int{}, map[string]int{}
	for name := range m {
		head, own, _ := strings.Cut(name, ".")
		heads[head]++
		owns[own]++
	}
	told := 0
	for head := range heads {
		for own := range owns {
			asNamed(t, m, head+"."+own)
			if _, ok := m[head+"."+own]; ok {
				told++
			}
		}
	}
	if told != 421 {
		t.Errorf("%d names have a point", told)
	}
}

// P10.2: all numbers, rising.
func TestAll(t *testing.T) {
	var want []api.Op
	for _, r := range table() {
		want = append(want, r.op)
	}
	slices.Sort(want)
	all := ops.All()
	if len(all) != 435 || !slices.Equal(all, want) {
		t.Errorf("All: %d numbers: %x", len(all), all)
	}
	for i := range len(all) - 1 {
		if all[i] >= all[i+1] {
			t.Errorf("All: %x ahead of %x", all[i], all[i+1])
		}
	}
}

// P10.2: All has just those that Of tells.
func TestAllIsOf(t *testing.T) {
	var told []api.Op
	for n := range words {
		if _, e := ops.Of(api.Op(n)); e == api.OK {
			told = append(told, api.Op(n))
		}
	}
	if all := ops.All(); !slices.Equal(all, told) {
		t.Errorf("All: %x, but Of tells %x", all, told)
	}
}

// P10.3: names are those of one instruction each; plain ones leave one value.
func TestWhatFollows(t *testing.T) {
	names := map[string]api.Op{}
	plain := 0
	for _, o := range ops.All() {
		x, e := ops.Of(o)
		if e != api.OK || x.Op != o {
			t.Fatalf("Of(%x) = %v, %d", o, x, e)
		}
		if was, ok := names[x.Name]; ok {
			t.Errorf("%x and %x are %s", was, o, x.Name)
		}
		names[x.Name] = o
		if n, e := ops.Named(x.Name); n != o || e != api.OK {
			t.Errorf("Named(%s) = %x, %d, not %x", x.Name, n, e, o)
		}
		if x.Plain {
			plain++
			if len(x.To) != 1 {
				t.Errorf("%s leaves %v", x.Name, x.To)
			}
		}
	}
	if len(names) != 435 || plain != 354 {
		t.Errorf("%d names, %d plain ones", len(names), plain)
	}
}

// Rule 5: what is written over in an answer changes no other one.
func TestNewMemory(t *testing.T) {
	for _, r := range table() {
		x, _ := ops.Of(r.op)
		from, to := x.From[:cap(x.From)], x.To[:cap(x.To)]
		for i := range from {
			from[i] = api.FuncRef
		}
		if !slices.Equal(x.To, vals(r.to)) {
			t.Errorf("%s: From and To share memory", r.name)
		}
		for i := range to {
			to[i] = api.ExternRef
		}
		if y, e := ops.Of(r.op); e != api.OK || !r.is(y) {
			t.Errorf("%s: Of = %v, %d behind an answer that was written over", r.name, y, e)
		}
	}
	all := ops.All()
	want := slices.Clone(all)
	clear(all[:cap(all)])
	if again := ops.All(); !slices.Equal(again, want) {
		t.Errorf("All: %x behind an answer that was written over", again)
	}
	if x, e := ops.Of(0x6a); e != api.OK || x.Name != "i32.add" {
		t.Errorf("Of(6a) = %v, %d behind an answer of All that was written over", x, e)
	}
}
