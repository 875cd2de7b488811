package types_test

import (
	"bytes"
	"math"
	"slices"
	"testing"

	"jacquard/api"
	"jacquard/types"
)

// look goes over bytes as the document's words say; bad: they are none.
type look struct {
	b   []byte
	at  int
	bad bool
}

func (l *look) one() byte {
	if l.bad || l.at == len(l.b) {
		l.bad = true
		return 0
	}
	l.at++
	return l.b[l.at-1]
}

// oneOf is a byte that must be one of those.
func (l *look) oneOf(those ...byte) byte {
	c := l.one()
	l.bad = l.bad || !slices.Contains(those, c)
	return c
}

// number is one of 32 bits, of at most five groups.
func (l *look) number() uint64 {
	n := uint64(0)
	for i := range 5 {
		c := l.one()
		n += uint64(c%128) << (7 * i)
		if c < 128 {
			l.bad = l.bad || n >= 1<<32
			return n
		}
	}
	l.bad = true
	return 0
}

func (l *look) val() api.ValType {
	return api.ValType(l.oneOf(0x7f, 0x7e, 0x7d, 0x7c, 0x7b, 0x70, 0x6f))
}

func (l *look) list() []api.ValType {
	var list []api.ValType
	for n := l.number(); n > 0 && !l.bad; n-- {
		list = append(list, l.val())
	}
	return list
}

func (l *look) function() api.FuncType {
	l.oneOf(0x60)
	params := l.list()
	return api.FuncType{Params: params, Results: l.list()}
}

func (l *look) limits() api.Limits {
	if l.oneOf(0, 1) == 0 {
		return api.Limits{Min: uint32(l.number())}
	}
	least := uint32(l.number())
	return api.Limits{Min: least, Max: uint32(l.number()), Bound: true}
}

func (l *look) table() api.TableType {
	elem := api.ValType(l.oneOf(0x70, 0x6f))
	return api.TableType{Elem: elem, Limits: l.limits()}
}

func (l *look) global() api.GlobalType {
	val := l.val()
	return api.GlobalType{Val: val, Mut: l.oneOf(0, 1) == 1}
}

func equal[T comparable](a, b T) bool { return a == b }

// holdOne holds a call at b[at] against the document's words.
func holdOne[T any](t *testing.T, what string, b []byte, at int, call func([]byte, int) (T, int, api.Errno), words func(*look) T, alike func(a, b T) bool) {
	t.Helper()
	var want T
	to, err := 0, api.ErrArg
	if at >= 0 && at <= len(b) {
		l := look{b: b, at: at}
		want, to, err = words(&l), l.at, api.OK
		if l.bad {
			var none T
			want, to, err = none, 0, api.ErrForm
		}
	}
	if x, next, e := call(b, at); !alike(x, want) || next != to || e != err {
		t.Fatalf("%s(%x, %d) = %v, %d, %v; want %v, %d, %v", what, b, at, x, next, e, want, to, err)
	}
}

// hold holds all calls that read against the document's words.
func hold(t *testing.T, b []byte, at int) {
	t.Helper()
	holdOne(t, "Func", b, at, types.Func, (*look).function, same)
	holdOne(t, "Val", b, at, types.Val, (*look).val, equal)
	holdOne(t, "Limits", b, at, types.Limits, (*look).limits, equal)
	holdOne(t, "Table", b, at, types.Table, (*look).table, equal)
	holdOne(t, "Global", b, at, types.Global, (*look).global, equal)
}

// readCase is bytes, and what they are of up to which place; next 0: they are none.
type readCase[T any] struct {
	b    []byte
	x    T
	next int
}

// byHand asks each case alone, in the midst of other bytes, and cut at each place.
func byHand[T any](t *testing.T, what string, cases []readCase[T], call func([]byte, int) (T, int, api.Errno), alike func(a, b T) bool) {
	t.Helper()
	var none T
	for _, c := range cases {
		err := api.OK
		if c.next == 0 {
			err = api.ErrForm
		}
		for _, ahead := range [][]byte{nil, {0x60}, {0xff, 0x7f, 0x00}} {
			for _, behind := range [][]byte{nil, {0x7f}, {0x80}, {0xff, 0x00}} {
				to := 0
				if err == api.OK {
					to = len(ahead) + c.next
				} else if len(behind) > 0 {
					continue
				}
				b := join(ahead, c.b, behind)
				if x, next, e := call(b, len(ahead)); !alike(x, c.x) || next != to || e != err {
					t.Errorf("%s(%x, %d) = %v, %d, %v; want %v, %d, %v", what, b, len(ahead), x, next, e, c.x, to, err)
				}
			}
		}
		for cut := range c.next {
			if x, next, e := call(c.b[:cut], 0); !alike(x, none) || next != 0 || e != api.ErrForm {
				t.Errorf("%s(%x, 0) = %v, %d, %v", what, c.b[:cut], x, next, e)
			}
		}
	}
}

// P9.3: functions by hand: the document's examples, needlessly long numbers, those that are none, counts beyond what is left.
func TestFunc(t *testing.T) {
	of := func(params, results []api.ValType) api.FuncType {
		return api.FuncType{Params: params, Results: results}
	}
	var none api.FuncType
	byHand(t, "Func", []readCase[api.FuncType]{
		{[]byte{0x60, 1, 0x7f, 2, 0x7e, 0x7b}, of(row(api.I32), row(api.I64, api.V128)), 6},
		{[]byte{0x60, 0x81, 0, 0x7f, 0}, of(row(api.I32), nil), 5},
		{[]byte{0x60, 0, 0}, none, 3},
		{[]byte{0x60, 0, 1, 0x7f}, of(nil, row(api.I32)), 4},
		{[]byte{0x60, 2, 0x70, 0x6f, 0}, of(row(api.FuncRef, api.ExternRef), nil), 5},
		{[]byte{0x60, 2, 0x7d, 0x7c, 2, 0x7c, 0x7d}, of(row(api.F32, api.F64), row(api.F64, api.F32)), 7},
		{[]byte{0x60, 0x80, 0x80, 0x80, 0x80, 0, 0x80, 0}, none, 8},
		{[]byte{0x60, 1, 0x7b, 0x81, 0x80, 0x80, 0x80, 0, 0x6f}, of(row(api.V128), row(api.ExternRef)), 9},
		{join([]byte{0x60, 0x7f}, bytes.Repeat([]byte{0x7e}, 127), []byte{0}), of(slices.Repeat(row(api.I64), 127), nil), 130},
		{join([]byte{0x60, 0x80, 1}, bytes.Repeat([]byte{0x7d}, 128), []byte{1, 0x7f}), of(slices.Repeat(row(api.F32), 128), row(api.I32)), 133},
		{join([]byte{0x60, 0, 0x80, 2}, bytes.Repeat([]byte{0x70}, 256)), of(nil, slices.Repeat(row(api.FuncRef), 256)), 260},
		// no function's, no types
		{[]byte{0x5f, 0, 0}, none, 0}, {[]byte{0x61, 0, 0}, none, 0}, {[]byte{0xe0, 0, 0}, none, 0}, {[]byte{0xe0, 0, 0, 0}, none, 0}, {[]byte{0, 0, 0}, none, 0},
		{[]byte{0x60, 1, 0x6e, 0}, none, 0}, {[]byte{0x60, 1, 0x7a, 0}, none, 0}, {[]byte{0x60, 1, 0x40, 0}, none, 0}, {[]byte{0x60, 1, 0, 0}, none, 0},
		{[]byte{0x60, 2, 0x7f, 0x6e, 0}, none, 0}, {[]byte{0x60, 0, 1, 0x71}, none, 0}, {[]byte{0x60, 1, 0x7f, 2, 0x7f, 0x60}, none, 0}, {[]byte{0x60, 1, 0xff, 0}, none, 0},
		// fewer types than said
		{[]byte{0x60, 2, 0x7f}, none, 0}, {[]byte{0x60, 3, 0x7f, 0x7f}, none, 0}, {[]byte{0x60, 1, 0x7f, 2, 0x7e}, none, 0}, {[]byte{0x60, 0, 1}, none, 0},
		{[]byte{0x60, 0x80, 2, 0x7f, 0x7f}, none, 0}, {[]byte{0x60, 0, 0x80, 0x80, 4, 0x7f}, none, 0},
		{[]byte{0x60, 0xff, 0xff, 0xff, 0xff, 0x07, 0x7f}, none, 0}, {[]byte{0x60, 0x80, 0x80, 0x80, 0x80, 0x08, 0x7f}, none, 0},
		{[]byte{0x60, 0xff, 0xff, 0xff, 0xff, 0x0f}, none, 0}, {[]byte{0x60, 0xff, 0xff, 0xff, 0xff, 0x0f, 0x7f, 0x7f}, none, 0}, {[]byte{0x60, 0, 0xff, 0xff, 0xff, 0xff, 0x0f, 0x7f}, none, 0},
		// numbers that are none: of six groups, of 33 bits
		{[]byte{0x60, 0x80, 0x80, 0x80, 0x80, 0x80, 0, 0}, none, 0}, {[]byte{0x60, 0x80, 0x80, 0x80, 0x80, 0x10, 0}, none, 0}, {[]byte{0x60, 0, 0x80, 0x80, 0x80, 0x80, 0x10}, none, 0}, {[]byte{0x60, 0, 0x81, 0x80, 0x80, 0x80, 0x10, 0x7f}, none, 0},
		{[]byte{0x60, 0x80}, none, 0}, {[]byte{0x60, 0, 0x80}, none, 0}, {[]byte{0x60, 0xff}, none, 0},
	}, types.Func, same)
}

// P9.3: of every byte.
func TestVal(t *testing.T) {
	for n := range 256 {
		want, to, err := api.ValType(n), 1, api.OK
		if !isType(want) {
			want, to, err = 0, 0, api.ErrForm
		}
		if x, next, e := types.Val([]byte{byte(n)}, 0); x != want || next != to || e != err {
			t.Errorf("Val(%x) = %x, %d, %v; want %x, %d, %v", n, x, next, e, want, to, err)
		}
	}
	byHand(t, "Val", []readCase[api.ValType]{
		{[]byte{0x6f}, api.ExternRef, 1}, {[]byte{0x7f}, api.I32, 1}, {[]byte{0x7b, 0x6e}, api.V128, 1},
		{nil, 0, 0}, {[]byte{0x6e}, 0, 0}, {[]byte{0x6e, 0x7f}, 0, 0}, {[]byte{0xff, 0x00}, 0, 0}, {[]byte{0}, 0, 0}, {[]byte{0x60}, 0, 0},
	}, types.Val, equal)
}

// P9.3: Limits by hand: a Min above its Max is read, a first byte that is neither 00 nor 01 is not.
func TestLimits(t *testing.T) {
	var none api.Limits
	byHand(t, "Limits", []readCase[api.Limits]{
		{[]byte{0, 5}, free(5), 2},
		{[]byte{1, 5, 4}, bound(5, 4), 3},
		{[]byte{0, 0}, none, 2},
		{[]byte{1, 0, 0}, bound(0, 0), 3},
		{[]byte{1, 2, 7}, bound(2, 7), 3},
		{[]byte{0, 0x85, 0x80, 0x80, 0x80, 0}, free(5), 6},
		{[]byte{1, 0x85, 0, 0x84, 0x80, 0}, bound(5, 4), 6},
		{[]byte{1, 0x80, 0x80, 0x80, 0x80, 0, 0x80, 0x80, 0x80, 0x80, 0}, bound(0, 0), 11},
		{[]byte{0, 0xff, 0xff, 0xff, 0xff, 0x0f}, free(top), 6},
		{[]byte{1, 0, 0xff, 0xff, 0xff, 0xff, 0x0f}, bound(0, top), 7},
		{[]byte{1, 0xff, 0xff, 0xff, 0xff, 0x0f, 0}, bound(top, 0), 7},
		{[]byte{0, 0x80, 0x80, 4}, free(65536), 4},
		{[]byte{2, 5}, none, 0}, {[]byte{2, 5, 5}, none, 0}, {[]byte{3, 5, 5}, none, 0}, {[]byte{0x80, 0, 5}, none, 0}, {[]byte{0x81, 0, 5, 5}, none, 0}, {[]byte{0x7f, 5, 5}, none, 0}, {[]byte{0xff, 5, 5}, none, 0},
		{nil, none, 0}, {[]byte{0}, none, 0}, {[]byte{1}, none, 0}, {[]byte{1, 5}, none, 0},
		{[]byte{0, 0x80, 0x80, 0x80, 0x80, 0x10}, none, 0}, {[]byte{0, 0x80, 0x80, 0x80, 0x80, 0x80, 0}, none, 0}, {[]byte{0, 0x80}, none, 0},
		{[]byte{1, 0, 0x80, 0x80, 0x80, 0x80, 0x10}, none, 0}, {[]byte{1, 0, 0x80, 0x80, 0x80, 0x80, 0x80, 0}, none, 0}, {[]byte{1, 0, 0x80}, none, 0},
	}, types.Limits, equal)
}

// P9.3: tables by hand: their Elem alone decides, beside the form of their Limits.
func TestTable(t *testing.T) {
	var none api.TableType
	byHand(t, "Table", []readCase[api.TableType]{
		{[]byte{0x70, 0, 1}, table(api.FuncRef, free(1)), 3},
		{[]byte{0x6f, 1, 5, 4}, table(api.ExternRef, bound(5, 4)), 4},
		{[]byte{0x6f, 0, 0}, table(api.ExternRef, free(0)), 3},
		{[]byte{0x70, 1, 0x81, 0, 0x82, 0}, table(api.FuncRef, bound(1, 2)), 6},
		{[]byte{0x70, 1, 0xff, 0xff, 0xff, 0xff, 0x0f, 0xff, 0xff, 0xff, 0xff, 0x0f}, table(api.FuncRef, bound(top, top)), 12},
		{[]byte{0x7f, 0, 1}, none, 0}, {[]byte{0x7e, 0, 1}, none, 0}, {[]byte{0x7d, 0, 1}, none, 0}, {[]byte{0x7c, 0, 1}, none, 0}, {[]byte{0x7b, 0, 1}, none, 0},
		{[]byte{0x71, 0, 1}, none, 0}, {[]byte{0x6e, 0, 1}, none, 0}, {[]byte{0, 0, 1}, none, 0},
		{[]byte{0x70, 2, 1}, none, 0}, {[]byte{0x70, 2, 1, 1}, none, 0}, {[]byte{0x70, 0x70, 0, 1}, none, 0}, {[]byte{0x6f, 1, 1}, none, 0}, {[]byte{0x6f}, none, 0}, {nil, none, 0},
		{[]byte{0x70, 0, 0x80, 0x80, 0x80, 0x80, 0x10}, none, 0},
	}, types.Table, equal)
}

// P9.3: globals by hand.
func TestGlobal(t *testing.T) {
	var none api.GlobalType
	byHand(t, "Global", []readCase[api.GlobalType]{
		{[]byte{0x7b, 1}, api.GlobalType{Val: api.V128, Mut: true}, 2},
		{[]byte{0x7f, 0}, api.GlobalType{Val: api.I32}, 2},
		{[]byte{0x7e, 1, 1}, api.GlobalType{Val: api.I64, Mut: true}, 2},
		{[]byte{0x6f, 0}, api.GlobalType{Val: api.ExternRef}, 2},
		{[]byte{0x7f, 2}, none, 0}, {[]byte{0x7f, 0x80, 0}, none, 0}, {[]byte{0x7f, 0x81, 0}, none, 0}, {[]byte{0x7f, 0xff}, none, 0}, {[]byte{0x7f, 0x7f}, none, 0},
		{[]byte{0x7f}, none, 0}, {nil, none, 0}, {[]byte{0x6e, 0}, none, 0}, {[]byte{0x7a, 1}, none, 0}, {[]byte{0, 0x7f}, none, 0}, {[]byte{1}, none, 0},
	}, types.Global, equal)
}

// P9.3: every byte in each place of short rows that begin well.
func TestEachByte(t *testing.T) {
	for _, b := range [][]byte{
		{0x60, 1, 0x7f, 2, 0x7e, 0x7b}, {0x60, 0x81, 0, 0x7f, 0}, {0x60, 0, 0}, {0, 5}, {0, 0x85, 0x80, 0x80, 0x80, 0},
		{1, 5, 4, 0}, {1, 0x85, 0, 0x84, 0x80, 0}, {0x70, 0, 1}, {0x6f, 1, 5, 4}, {0x7f, 1}, {0x6f, 0, 1},
	} {
		for i := range b {
			for n := range 256 {
				c := bytes.Clone(b)
				c[i] = byte(n)
				hold(t, c, 0)
				hold(t, join([]byte{0x60, 0x70}, c), 2)
				hold(t, join(c, []byte{0x7f, 0, 0}), 0)
			}
		}
	}
}

// P9.3: all rows of up to five of the bytes that mean something.
func TestShortRows(t *testing.T) {
	letters := []byte{0x60, 0x70, 0x7f, 0x6e, 0x80, 0x81, 0, 1, 2}
	rows := [][]byte{nil}
	for range 5 {
		var longer [][]byte
		for _, b := range rows {
			hold(t, b, 0)
			for _, c := range letters {
				longer = append(longer, join(b, []byte{c}))
			}
		}
		rows = longer
	}
	for _, b := range rows {
		hold(t, b, 0)
		hold(t, b, 1)
	}
}

// P9.3: each place of rows of bytes, and those just outside of them.
func TestEachPlace(t *testing.T) {
	for _, b := range [][]byte{
		nil, {}, {0x60}, {0x7f}, {0x60, 0, 0},
		{0x60, 1, 0x7f, 2, 0x7e, 0x7b, 0x70, 0, 1, 0x6f, 1, 5, 4, 0x7b, 1, 0x7f, 0, 0x60, 0, 0x60, 0x60, 0, 0},
		{0x70, 0x70, 1, 0x80, 0x80, 1, 0x80, 0x80, 0x80, 0x80, 0x80, 0, 0x60, 0x82, 0, 0x6f, 0x70, 0x81, 0x80, 0, 0x7c, 0x6e},
	} {
		for at := -3; at <= len(b)+3; at++ {
			hold(t, b, at)
		}
	}
}

// P9.3: a place that may not be is told ahead of bytes that may not be.
func TestWrongPlaces(t *testing.T) {
	refused := func(what string, b []byte, at int, zero bool, next int, e api.Errno) {
		t.Helper()
		if !zero || next != 0 || e != api.ErrArg {
			t.Errorf("%s(%x, %d): zero value is %t, %d, %v", what, b, at, zero, next, e)
		}
	}
	for _, b := range [][]byte{nil, {}, {0x60, 0, 0}, {0, 5}, {0x70, 0, 1}, {0x7f, 1}, {0xff, 0xff}} {
		for _, at := range []int{math.MinInt, math.MinInt + 1, -len(b) - 1, -2, -1, len(b) + 1, len(b) + 2, 1 << 16, math.MaxInt32, math.MaxInt - 1, math.MaxInt} {
			f, next, e := types.Func(b, at)
			refused("Func", b, at, f.Params == nil && f.Results == nil, next, e)
			v, next, e := types.Val(b, at)
			refused("Val", b, at, v == 0, next, e)
			l, next, e := types.Limits(b, at)
			refused("Limits", b, at, l == api.Limits{}, next, e)
			x, next, e := types.Table(b, at)
			refused("Table", b, at, x == api.TableType{}, next, e)
			g, next, e := types.Global(b, at)
			refused("Global", b, at, g == api.GlobalType{}, next, e)
		}
	}
}

// P9.3: a list of every length around those where the number's form changes, with as many bytes as it says, and one fewer.
func TestEachLength(t *testing.T) {
	for _, n := range []int{0, 1, 2, 63, 64, 127, 128, 129, 255, 256, 257, 16383, 16384, 65535, 65536, 70000} {
		number := []byte{byte(n) | 0x80, byte(n>>7) | 0x80, byte(n >> 14)}
		list := slices.Repeat(allTypes, n/len(allTypes)+1)[:n]
		var bare []byte
		for _, v := range list {
			bare = append(bare, byte(v))
		}
		b := join([]byte{0x60}, number, bare, []byte{1, 0x7c})
		if f, next, e := types.Func(b, 0); !slices.Equal(f.Params, list) || !slices.Equal(f.Results, row(api.F64)) || next != len(b) || e != api.OK {
			t.Errorf("Func of %d parameters = %d, %v, %d, %v", n, len(f.Params), f.Results, next, e)
		}
		b = join([]byte{0x60, 1, 0x7c}, number, bare)
		if f, next, e := types.Func(b, 0); !slices.Equal(f.Params, row(api.F64)) || !slices.Equal(f.Results, list) || next != len(b) || e != api.OK {
			t.Errorf("Func of %d results = %v, %d, %d, %v", n, f.Params, len(f.Results), next, e)
		}
		b = b[:len(b)-1]
		if f, next, e := types.Func(b, 0); f.Params != nil || f.Results != nil || next != 0 || e != api.ErrForm {
			t.Errorf("Func of %d results, a byte less, = %v, %d, %v", n, f, next, e)
		}
	}
}

// P9.4: functions by hand, among them such as may not be.
func TestPut(t *testing.T) {
	for _, c := range []struct {
		f api.FuncType
		b []byte
	}{
		{api.FuncType{}, []byte{0x60, 0, 0}},
		{api.FuncType{Params: row(), Results: row()}, []byte{0x60, 0, 0}},
		{api.FuncType{Params: row(api.I32), Results: row(api.I64, api.V128)}, []byte{0x60, 1, 0x7f, 2, 0x7e, 0x7b}},
		{api.FuncType{Params: allTypes}, []byte{0x60, 7, 0x7f, 0x7e, 0x7d, 0x7c, 0x7b, 0x70, 0x6f, 0}},
		{api.FuncType{Results: allTypes}, []byte{0x60, 0, 7, 0x7f, 0x7e, 0x7d, 0x7c, 0x7b, 0x70, 0x6f}},
		{api.FuncType{Params: row(0, 0xff), Results: row(0x6e)}, []byte{0x60, 2, 0, 0xff, 1, 0x6e}},
		{api.FuncType{Params: slices.Repeat(row(api.F32), 127)}, join([]byte{0x60, 0x7f}, bytes.Repeat([]byte{0x7d}, 127), []byte{0})},
		{api.FuncType{Params: slices.Repeat(row(api.F32), 128)}, join([]byte{0x60, 0x80, 1}, bytes.Repeat([]byte{0x7d}, 128), []byte{0})},
		{api.FuncType{Results: slices.Repeat(row(api.F64), 127)}, join([]byte{0x60, 0, 0x7f}, bytes.Repeat([]byte{0x7c}, 127))},
		{api.FuncType{Results: slices.Repeat(row(api.F64), 128)}, join([]byte{0x60, 0, 0x80, 1}, bytes.Repeat([]byte{0x7c}, 128))},
		{api.FuncType{Params: row(api.I32), Results: slices.Repeat(row(api.I64), 16384)}, join([]byte{0x60, 1, 0x7f, 0x80, 0x80, 1}, bytes.Repeat([]byte{0x7e}, 16384))},
	} {
		if b := types.Put(c.f); !bytes.Equal(b, c.b) {
			t.Errorf("Put(%v) = %x; want %x", c.f, b, c.b)
		}
	}
	for n := range 256 {
		v := row(api.ValType(n))
		if b := types.Put(api.FuncType{Params: v, Results: v}); !bytes.Equal(b, []byte{0x60, 1, byte(n), 1, byte(n)}) {
			t.Errorf("Put of %x = %x", n, b)
		}
	}
}

// P9.4: Limits by hand, among them such as may not be.
func TestPutLimits(t *testing.T) {
	for _, c := range []struct {
		l api.Limits
		b []byte
	}{
		{free(0), []byte{0, 0}},
		{free(5), []byte{0, 5}},
		{free(127), []byte{0, 0x7f}},
		{free(128), []byte{0, 0x80, 1}},
		{free(top), []byte{0, 0xff, 0xff, 0xff, 0xff, 0x0f}},
		{bound(0, 0), []byte{1, 0, 0}},
		{bound(2, 7), []byte{1, 2, 7}},
		{bound(5, 4), []byte{1, 5, 4}},
		{bound(128, 127), []byte{1, 0x80, 1, 0x7f}},
		{bound(127, 128), []byte{1, 0x7f, 0x80, 1}},
		{bound(0, 65536), []byte{1, 0, 0x80, 0x80, 4}},
		{bound(top, top), []byte{1, 0xff, 0xff, 0xff, 0xff, 0x0f, 0xff, 0xff, 0xff, 0xff, 0x0f}},
		// not Bound there is no Max to be put
		{api.Limits{Min: 5, Max: 9}, []byte{0, 5}},
	} {
		if b := types.PutLimits(c.l); !bytes.Equal(b, c.b) {
			t.Errorf("PutLimits(%v) = %x; want %x", c.l, b, c.b)
		}
	}
}

// putIsRead asks for what stands in form, wherever it stands and whatever is behind it.
func putIsRead[T any](t *testing.T, what string, x T, form []byte, call func([]byte, int) (T, int, api.Errno), alike func(a, b T) bool) {
	t.Helper()
	for _, ahead := range [][]byte{nil, {0xff}, {0x60, 0x80, 0x80}} {
		for _, behind := range [][]byte{nil, {0}, {0x7f}, {0xff, 0xff}} {
			b := join(ahead, form, behind)
			if got, next, e := call(b, len(ahead)); !alike(got, x) || next != len(ahead)+len(form) || e != api.OK {
				t.Fatalf("%s(%x, %d) = %v, %d, %v; %v is put there", what, b, len(ahead), got, next, e, x)
			}
		}
	}
}

// P9.5: what is put, of right types, is read.
func TestPutIsRead(t *testing.T) {
	funcs := funcTypes()
	for _, n := range []int{126, 127, 128, 300, 16383, 16384} {
		l := slices.Repeat(allTypes, n)[:n]
		funcs = append(funcs, api.FuncType{Params: l}, api.FuncType{Results: l}, api.FuncType{Params: l, Results: l[1:]})
	}
	for _, f := range funcs {
		putIsRead(t, "Func", f, types.Put(f), types.Func, same)
	}
	for _, l := range someLimits() {
		if !l.Bound && l.Max != 0 {
			continue
		}
		form := types.PutLimits(l)
		putIsRead(t, "Limits", l, form, types.Limits, equal)
		for _, elem := range allRefs {
			putIsRead(t, "Table", table(elem, l), join([]byte{byte(elem)}, form), types.Table, equal)
		}
	}
}

// Rule 5: what is handed in stays as it is, the room behind its end too, which is not read either.
func TestHandedInStays(t *testing.T) {
	whole := []byte{0x60, 1, 0x7f, 2, 0x7e, 0x7b, 0x70, 1, 5, 0x84, 0, 0x7f, 1}
	kept := bytes.Clone(whole)
	for to := range whole {
		for at := range to + 1 {
			hold(t, whole[:to], at)
		}
	}
	if !bytes.Equal(whole, kept) {
		t.Errorf("changed to %x", whole)
	}
	room := slices.Repeat(row(0xaa), 40)
	params, results := append(room[:0], api.I32, api.I64), append(room[20:20], api.F32)
	was := slices.Clone(room)
	f := api.FuncType{Params: params, Results: results}
	types.Put(f)
	types.Same(f, f)
	if !slices.Equal(room, was) {
		t.Errorf("changed to %x", room)
	}
}

// Rule 5: what is answered is new memory: no argument's, no other answer's, no other list's of the answer.
func TestAnswersAreNew(t *testing.T) {
	b := []byte{0x60, 2, 0x7f, 0x7e, 2, 0x7d, 0x7c}
	params, results := row(api.I32, api.I64), row(api.F32, api.F64)
	f, _, _ := types.Func(b, 0)
	again, _, _ := types.Func(b, 0)
	clear(b)
	clear(f.Params[:cap(f.Params)])
	if !slices.Equal(f.Results, results) || !same(again, api.FuncType{Params: params, Results: results}) {
		t.Errorf("Func's parameters share memory with %v, %v", f.Results, again)
	}
	clear(again.Results[:cap(again.Results)])
	if !slices.Equal(f.Results, results) || !slices.Equal(again.Params, params) {
		t.Errorf("Func's results share memory with %v, %v", f.Results, again.Params)
	}
	want := []byte{0x60, 2, 0x7f, 0x7e, 2, 0x7d, 0x7c}
	given := api.FuncType{Params: params, Results: results}
	put, other := types.Put(given), types.Put(given)
	clear(put[:cap(put)])
	if !bytes.Equal(other, want) || !slices.Equal(params, row(api.I32, api.I64)) || !slices.Equal(results, row(api.F32, api.F64)) {
		t.Errorf("Put's bytes share memory with %x, %v", other, given)
	}
	for _, l := range []api.Limits{free(5), bound(5, 128)} {
		put, other := types.PutLimits(l), types.PutLimits(l)
		kept := bytes.Clone(other)
		clear(put[:cap(put)])
		if !bytes.Equal(other, kept) {
			t.Errorf("two answers of PutLimits share memory: %x", other)
		}
	}
}
