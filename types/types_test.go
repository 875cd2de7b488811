package types_test

import (
	"bytes"
	"math"
	"slices"
	"testing"

	"jacquard/api"
	"jacquard/types"
)

// top is the greatest number of 32 bits.
const top = math.MaxUint32

var (
	allTypes = []api.ValType{api.I32, api.I64, api.F32, api.F64, api.V128, api.FuncRef, api.ExternRef}
	allRefs  = []api.ValType{api.FuncRef, api.ExternRef}
)

func isType(t api.ValType) bool { return slices.Contains(allTypes, t) }
func isRef(t api.ValType) bool  { return slices.Contains(allRefs, t) }

func row(l ...api.ValType) []api.ValType { return l }

func free(least uint32) api.Limits { return api.Limits{Min: least} }

func bound(least, most uint32) api.Limits { return api.Limits{Min: least, Max: most, Bound: true} }

func table(t api.ValType, l api.Limits) api.TableType { return api.TableType{Elem: t, Limits: l} }

func join(l ...[]byte) []byte { return bytes.Join(l, nil) }

// P9.1: every byte as a value's type.
func TestIs(t *testing.T) {
	if !slices.Equal(allTypes, row(0x7f, 0x7e, 0x7d, 0x7c, 0x7b, 0x70, 0x6f)) {
		t.Fatalf("the types are %x", allTypes)
	}
	for n := range 256 {
		b := api.ValType(n)
		if types.Is(b) != isType(b) {
			t.Errorf("Is(%x) = %t", b, !isType(b))
		}
		if types.IsRef(b) != isRef(b) {
			t.Errorf("IsRef(%x) = %t", b, !isRef(b))
		}
		if v := types.Zero(b); v != (api.Value{T: b}) {
			t.Errorf("Zero(%x) = %v", b, v)
		}
		if v := types.Zero(b); types.Has(v) != isType(b) {
			t.Errorf("Has(%v) = %t", v, !isType(b))
		}
	}
}

// P9.1: of each type the greatest value, and what is just beyond it.
func TestHas(t *testing.T) {
	const all = math.MaxUint64
	for _, c := range []struct {
		v    api.Value
		want bool
	}{
		{api.Value{T: api.I32, Lo: 5}, true},
		{api.Value{T: api.I32, Lo: top}, true},
		{api.Value{T: api.I32, Lo: 1 << 32}, false},
		{api.Value{T: api.I32, Lo: 1<<32 + 1}, false},
		{api.Value{T: api.I32, Lo: all}, false},
		{api.Value{T: api.I32, Hi: 1}, false},
		{api.Value{T: api.F32, Lo: 0x7f800001}, true},
		{api.Value{T: api.F32, Lo: top}, true},
		{api.Value{T: api.F32, Lo: 1 << 32}, false},
		{api.Value{T: api.F32, Lo: 5, Hi: 1}, false},
		{api.Value{T: api.I64, Lo: 1 << 32}, true},
		{api.Value{T: api.I64, Lo: all}, true},
		{api.Value{T: api.I64, Lo: all, Hi: 1}, false},
		{api.Value{T: api.I64, Hi: 1 << 63}, false},
		{api.Value{T: api.F64, Lo: 0x7ff0000000000001}, true},
		{api.Value{T: api.F64, Lo: all}, true},
		{api.Value{T: api.F64, Lo: all, Hi: all}, false},
		{api.Value{T: api.F64, Hi: 1}, false},
		{api.Value{T: api.V128, Hi: 1}, true},
		{api.Value{T: api.V128, Lo: all, Hi: all}, true},
		{api.Value{T: api.FuncRef}, true},
		{api.Value{T: api.FuncRef, Lo: 1}, true},
		{api.Value{T: api.FuncRef, Lo: top}, true},
		{api.Value{T: api.FuncRef, Lo: 1 << 32}, true},
		{api.Value{T: api.FuncRef, Lo: 1<<32 + 1}, false},
		{api.Value{T: api.FuncRef, Lo: all}, false},
		{api.Value{T: api.FuncRef, Hi: 1}, false},
		{api.Value{T: api.ExternRef}, true},
		{api.Value{T: api.ExternRef, Lo: 1 << 32}, true},
		{api.Value{T: api.ExternRef, Lo: 1<<32 + 1}, false},
		{api.Value{T: api.ExternRef, Lo: 1, Hi: 1}, false},
		{api.Value{T: api.Any}, false},
		{api.Value{T: 0x7a}, false},
		{api.Value{T: 0x6e, Lo: 1}, false},
	} {
		if types.Has(c.v) != c.want {
			t.Errorf("Has(%v) = %t", c.v, !c.want)
		}
	}
}

// has is what the document's words say of a value.
func has(v api.Value) bool {
	most := map[api.ValType]uint64{
		api.I32: top, api.F32: top, api.I64: math.MaxUint64, api.F64: math.MaxUint64, api.V128: math.MaxUint64, api.FuncRef: top + 1, api.ExternRef: top + 1,
	}
	bits, ok := most[v.T]
	return ok && v.Lo <= bits && (v.Hi == 0 || v.T == api.V128)
}

// P9.1: bits around the bounds, as values of every byte.
func TestHasEachType(t *testing.T) {
	words := []uint64{0, 1, 2, 1<<31 - 1, 1 << 31, top - 1, top, top + 1, top + 2, 1 << 33, 1<<63 - 1, 1 << 63, math.MaxUint64 - 1, math.MaxUint64}
	for n := range 256 {
		for _, lo := range words {
			for _, hi := range words {
				v := api.Value{T: api.ValType(n), Lo: lo, Hi: hi}
				if types.Has(v) != has(v) {
					t.Errorf("Has(%v) = %t", v, !has(v))
				}
			}
		}
	}
}

// counts are numbers of 32 bits: the least, and those around the document's bounds.
var counts = []uint32{0, 1, 2, 3, 4, 5, 127, 128, 129, 65535, 65536, 65537, 1<<31 - 1, 1 << 31, top - 1, top}

// someLimits are all of counts, among them those that may never be: with Min above Max, and not Bound with a Max.
func someLimits() []api.Limits {
	var l []api.Limits
	for _, least := range counts {
		for _, most := range counts {
			l = append(l, bound(least, most), api.Limits{Min: least, Max: most})
		}
	}
	return l
}

// P9.2: Min and Max just at the bound, and one beyond it.
func TestMay(t *testing.T) {
	for _, c := range []struct {
		l     api.Limits
		bound uint64
		want  bool
	}{
		{bound(5, 4), 9, false},
		{bound(5, 5), 9, true},
		{bound(4, 5), 9, true},
		{free(9), 9, true},
		{free(10), 9, false},
		{bound(9, 9), 9, true},
		{bound(9, 10), 9, false},
		{bound(1, 9), 9, true},
		{bound(1, 10), 9, false},
		{bound(10, 10), 9, false},
		{bound(10, 9), 9, false},
		{api.Limits{Max: 1}, 9, false},
		{api.Limits{Min: 1, Max: 1}, 9, false},
		{api.Limits{Min: 1, Max: 5}, 9, false},
		{free(0), 0, true},
		{free(1), 0, false},
		{bound(0, 0), 0, true},
		{bound(0, 1), 0, false},
		{free(65536), 65536, true},
		{free(65537), 65536, false},
		{bound(0, 65536), 65536, true},
		{bound(0, 65537), 65536, false},
		{bound(top, top), top, true},
		{bound(0, top), top - 1, false},
		{free(top), top - 1, false},
		{free(top), 1 << 32, true},
		{bound(1, 1), 1 << 32, true},
		{bound(top, top), math.MaxUint64, true},
		{bound(top, top-1), math.MaxUint64, false},
	} {
		if types.May(c.l, c.bound) != c.want {
			t.Errorf("May(%v, %d) = %t", c.l, c.bound, !c.want)
		}
	}
}

// may is what the document's words say of Limits.
func may(l api.Limits, bound uint64) bool {
	minIs := uint64(l.Min) <= bound
	if l.Bound {
		return minIs && uint64(l.Max) <= bound && l.Min <= l.Max
	}
	return minIs && l.Max == 0
}

// P9.2: many Limits within many bounds, some of more than 32 bits.
func TestMayEach(t *testing.T) {
	bounds := []uint64{1 << 32, 1<<32 + 1, 1<<32 + 5, 1 << 33, 1 << 63, math.MaxUint64}
	for _, n := range counts {
		bounds = append(bounds, uint64(n))
	}
	for _, l := range someLimits() {
		for _, b := range bounds {
			if types.May(l, b) != may(l, b) {
				t.Errorf("May(%v, %d) = %t", l, b, !may(l, b))
			}
		}
	}
}

// P9.2: an Elem of every byte, Limits up to the greatest there are, which are within the bound.
func TestMayTable(t *testing.T) {
	for _, c := range []struct {
		x    api.TableType
		want bool
	}{
		{table(api.FuncRef, free(0)), true},
		{table(api.ExternRef, free(5)), true},
		{table(api.FuncRef, free(top)), true},
		{table(api.ExternRef, bound(top, top)), true},
		{table(api.FuncRef, bound(0, top)), true},
		{table(api.FuncRef, bound(top, top-1)), false},
		{table(api.ExternRef, bound(5, 4)), false},
		{table(api.FuncRef, api.Limits{Max: 1}), false},
		{table(api.ExternRef, api.Limits{Min: 1, Max: top}), false},
		{table(api.I32, free(5)), false},
		{table(api.V128, bound(0, 1)), false},
		{table(api.Any, free(0)), false},
	} {
		if types.MayTable(c.x) != c.want {
			t.Errorf("MayTable(%v) = %t", c.x, !c.want)
		}
	}
	for n := range 256 {
		for _, l := range someLimits() {
			x := table(api.ValType(n), l)
			if want := isRef(x.Elem) && may(l, top); types.MayTable(x) != want {
				t.Errorf("MayTable(%v) = %t", x, !want)
			}
		}
	}
}

// P9.2: have and want Bound and not, each just within and just beyond.
func TestFit(t *testing.T) {
	for _, c := range []struct {
		have, want api.Limits
		is         bool
	}{
		{bound(2, 5), free(1), true},
		{bound(2, 5), free(2), true},
		{bound(2, 5), free(3), false},
		{free(2), free(1), true},
		{free(2), free(2), true},
		{free(1), free(2), false},
		{free(2), bound(1, 5), false},
		{free(5), bound(5, 5), false},
		{free(2), bound(1, top), false},
		{bound(2, 5), bound(1, 4), false},
		{bound(2, 5), bound(1, 5), true},
		{bound(2, 5), bound(1, 6), true},
		{bound(2, 5), bound(2, 5), true},
		{bound(2, 5), bound(3, 5), false},
		{bound(2, 5), bound(3, 9), false},
		{bound(1, top), free(0), true},
		{bound(top, top), bound(top, top), true},
		{bound(top, top), bound(top, top-1), false},
		// the Max of Limits that are not Bound is none
		{api.Limits{Min: 2, Max: 4}, bound(1, 5), false},
		{bound(2, 5), api.Limits{Min: 1, Max: 4}, true},
	} {
		if types.Fit(c.have, c.want) != c.is {
			t.Errorf("Fit(%v, %v) = %t", c.have, c.want, !c.is)
		}
	}
}

// fit is what the document's words say of two Limits.
func fit(have, want api.Limits) bool {
	is := have.Min >= want.Min
	if want.Bound {
		is = is && have.Bound && have.Max <= want.Max
	}
	return is
}

// P9.2: many Limits held against each other.
func TestFitEach(t *testing.T) {
	for _, have := range someLimits() {
		for _, want := range someLimits() {
			if types.Fit(have, want) != fit(have, want) {
				t.Errorf("Fit(%v, %v) = %t", have, want, !fit(have, want))
			}
			for _, elem := range allRefs {
				if types.FitTable(table(elem, have), table(elem, want)) != fit(have, want) {
					t.Errorf("FitTable(%x of %v, %v) = %t", elem, have, want, !fit(have, want))
				}
			}
			if types.FitTable(table(api.FuncRef, have), table(api.ExternRef, want)) {
				t.Errorf("FitTable(%v, %v) of unlike Elem", have, want)
			}
		}
	}
}

// P9.2: tables of every two bytes.
func TestFitTable(t *testing.T) {
	for a := range 256 {
		for b := range 256 {
			have, want := table(api.ValType(a), bound(2, 5)), table(api.ValType(b), free(1))
			if types.FitTable(have, want) != (a == b) {
				t.Errorf("FitTable(%v, %v) = %t", have, want, a != b)
			}
		}
	}
	for _, elem := range allRefs {
		if types.FitTable(table(elem, free(2)), table(elem, bound(1, 5))) {
			t.Errorf("FitTable of %x: what is not Bound fits what is", elem)
		}
		if types.FitTable(table(elem, free(1)), table(elem, free(2))) {
			t.Errorf("FitTable of %x: fewer fit more", elem)
		}
	}
}

// lists are all of up to two of three types, and some that are unlike in one place alone.
func lists() [][]api.ValType {
	l := [][]api.ValType{nil, {}}
	some := row(api.I32, api.I64, api.FuncRef)
	for _, a := range some {
		l = append(l, row(a))
		for _, b := range some {
			l = append(l, row(a, b))
		}
	}
	long := slices.Repeat(row(api.F32), 9)
	l = append(l, long, long[:8])
	for _, i := range []int{0, 4, 8} {
		unlike := slices.Clone(long)
		unlike[i] = api.F64
		l = append(l, unlike)
	}
	return l
}

// funcTypes are all of lists.
func funcTypes() []api.FuncType {
	var l []api.FuncType
	for _, params := range lists() {
		for _, results := range lists() {
			l = append(l, api.FuncType{Params: params, Results: results})
		}
	}
	return l
}

func same(a, b api.FuncType) bool {
	return slices.Equal(a.Params, b.Params) && slices.Equal(a.Results, b.Results)
}

// P9.2: lists of unlike length, unlike in their last place alone, parameters that stand for results.
func TestSame(t *testing.T) {
	long := slices.Repeat(row(api.I32), 300)
	other := slices.Clone(long)
	other[299] = api.I64
	for _, c := range []struct {
		a, b api.FuncType
		want bool
	}{
		{api.FuncType{}, api.FuncType{}, true},
		{api.FuncType{}, api.FuncType{Params: row(), Results: row()}, true},
		{api.FuncType{Params: row(api.I32)}, api.FuncType{Params: row(api.I32)}, true},
		{api.FuncType{Params: row(api.I32)}, api.FuncType{Results: row(api.I32)}, false},
		{api.FuncType{Params: row(api.I32), Results: row(api.I64)}, api.FuncType{Params: row(api.I64), Results: row(api.I32)}, false},
		{api.FuncType{Params: row(api.I32, api.I64)}, api.FuncType{Params: row(api.I32), Results: row(api.I64)}, false},
		{api.FuncType{Params: row(api.I32, api.I64)}, api.FuncType{Params: row(api.I64, api.I32)}, false},
		{api.FuncType{Params: long}, api.FuncType{Params: slices.Clone(long)}, true},
		{api.FuncType{Params: long}, api.FuncType{Params: long[:299]}, false},
		{api.FuncType{Params: long[:299]}, api.FuncType{Params: long}, false},
		{api.FuncType{Params: long}, api.FuncType{Params: other}, false},
		{api.FuncType{Results: long}, api.FuncType{Results: other}, false},
		{api.FuncType{Params: row(3, 0)}, api.FuncType{Params: row(3, 0)}, true},
		{api.FuncType{Params: row(3, 0)}, api.FuncType{Params: row(3)}, false},
	} {
		if types.Same(c.a, c.b) != c.want || types.Same(c.b, c.a) != c.want {
			t.Errorf("Same(%v, %v) = %t", c.a, c.b, !c.want)
		}
	}
	for _, a := range funcTypes() {
		for _, b := range funcTypes() {
			if types.Same(a, b) != same(a, b) {
				t.Errorf("Same(%v, %v) = %t", a, b, !same(a, b))
			}
		}
	}
}

// P9.5: Fit and FitTable go on from one to another one to a third one, and each fits itself.
func TestFitGoesOn(t *testing.T) {
	var l []api.Limits
	for _, least := range []uint32{0, 1, 2, top} {
		for _, most := range []uint32{0, 1, 2, top} {
			l = append(l, bound(least, most), api.Limits{Min: least, Max: most})
		}
	}
	var tables []api.TableType
	for _, x := range l {
		tables = append(tables, table(api.FuncRef, x), table(api.ExternRef, x), table(api.I32, x))
	}
	goesOn(t, "Fit", l, types.Fit)
	goesOn(t, "FitTable", tables, types.FitTable)
}

func goesOn[T any](t *testing.T, what string, l []T, fits func(have, want T) bool) {
	t.Helper()
	for _, a := range l {
		if !fits(a, a) {
			t.Errorf("%s: %v does not fit itself", what, a)
		}
		for _, b := range l {
			for _, c := range l {
				if fits(a, b) && fits(b, c) && !fits(a, c) {
					t.Errorf("%s: %v fits %v, that %v, but not the first the last", what, a, b, c)
				}
			}
		}
	}
}
