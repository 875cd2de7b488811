package code_test

import (
	"reflect"
	"slices"
	"testing"

	"jacquard/api"
	"jacquard/code"
	"jacquard/ops"
)

// look goes over an expression as the document's words say, with a call of itself for what is within; bad: there is none.
type look struct {
	b     []byte
	at    int
	bad   bool
	depth int
	datas bool
}

func (l *look) one() byte {
	if l.bad || l.at == len(l.b) {
		l.bad = true
		return 0
	}
	l.at++
	return l.b[l.at-1]
}

// must is a byte that must be that one.
func (l *look) must(c byte) {
	l.bad = l.one() != c || l.bad
}

// digits is the groups of a number of at most so many, without its sign, and how many there are.
func (l *look) digits(most int) (n uint64, last byte, count int) {
	for i := range most {
		c := l.one()
		n += uint64(c%128) << (7 * i)
		if c < 128 {
			return n, c, i + 1
		}
	}
	l.bad = true
	return 0, 0, 1
}

// number is an unsigned one of the width 32.
func (l *look) number() uint64 {
	n, _, _ := l.digits(5)
	l.bad = l.bad || n >= 1<<32
	return n
}

// signed is a signed one of a width below 64.
func (l *look) signed(w int) int64 {
	u, last, count := l.digits((w + 6) / 7)
	n := int64(u)
	if last >= 64 {
		n -= 1 << (7 * count)
	}
	l.bad = l.bad || n < -1<<(w-1) || n >= 1<<(w-1)
	return n
}

// signed64 is the bits of a signed one of the width 64: the tenth group has one bit of them, and its others are as that one.
func (l *look) signed64() uint64 {
	n, last, count := l.digits(10)
	if count == 10 {
		l.bad = l.bad || last != 0 && last != 127
	} else if last >= 64 {
		n -= 1 << (7 * count)
	}
	return n
}

func (l *look) val() api.ValType {
	c := l.one()
	l.bad = l.bad || !slices.Contains([]byte{0x7f, 0x7e, 0x7d, 0x7c, 0x7b, 0x70, 0x6f}, c)
	return api.ValType(c)
}

func (l *look) low(n int) uint64 {
	word := uint64(0)
	for i := range n {
		word += uint64(l.one()) << (8 * i)
	}
	return word
}

func (l *look) blockType() api.Block {
	if l.at < len(l.b) {
		switch c := l.b[l.at]; c {
		case 0x40:
			l.at++
			return api.Block{}
		case 0x7f, 0x7e, 0x7d, 0x7c, 0x7b, 0x70, 0x6f:
			l.at++
			return api.Block{Kind: api.BlockVal, Val: api.ValType(c)}
		}
	}
	n := l.signed(33)
	l.bad = l.bad || n < 0
	return api.Block{Kind: api.BlockType, Type: uint32(n)}
}

// list is instructions up to the byte 0b, or, where it may end them, 05: that byte, too.
func (l *look) list(around int, turns bool) (list []api.Instr, last byte) {
	for !l.bad {
		c := l.one()
		if c == 0x0b || c == 5 && turns {
			return list, c
		}
		list = append(list, l.instr(c, around))
	}
	return nil, 0
}

func (l *look) instr(c byte, around int) api.Instr {
	o := uint64(c)
	if c == 0xfc || c == 0xfd {
		n := l.number()
		l.bad = l.bad || n > 255
		o = 256*o + n
	}
	info, e := ops.Of(api.Op(o))
	l.bad = l.bad || e != api.OK
	x := api.Instr{Op: info.Op}
	if info.Imm != api.ImmBlock {
		l.behind(&x, info)
		return x
	}
	x.Block = l.blockType()
	l.depth = max(l.depth, around+1)
	var last byte
	x.Body, last = l.list(around+1, c == 4)
	if last == 5 {
		x.Else, _ = l.list(around+1, false)
	}
	return x
}

func (l *look) behind(x *api.Instr, info api.Info) {
	switch info.Imm {
	case api.ImmLabel, api.ImmFunc, api.ImmLocal, api.ImmGlobal, api.ImmTable, api.ImmElem:
		x.A = uint32(l.number())
	case api.ImmLabels:
		for n := l.number() + 1; n > 0 && !l.bad; n-- {
			x.L = append(x.L, uint32(l.number()))
		}
	case api.ImmTypeTable, api.ImmElemTable, api.ImmTables:
		x.A, x.B = uint32(l.number()), uint32(l.number())
	case api.ImmMem:
		l.must(0)
	case api.ImmMems:
		l.must(0)
		l.must(0)
	case api.ImmData:
		x.A, l.datas = uint32(l.number()), true
	case api.ImmDataMem:
		x.A, l.datas = uint32(l.number()), true
		l.must(0)
	case api.ImmPlace:
		x.A, x.N = uint32(l.number()), l.number()
	case api.ImmPlaceLane:
		x.A, x.N, x.B = uint32(l.number()), l.number(), uint32(l.one())
	case api.ImmLane:
		x.B = uint32(l.one())
	case api.ImmLanes, api.ImmV128:
		for i := range x.V {
			x.V[i] = l.one()
		}
	case api.ImmI32:
		x.N = uint64(uint32(l.signed(32)))
	case api.ImmI64:
		x.N = l.signed64()
	case api.ImmF32:
		x.N = l.low(4)
	case api.ImmF64:
		x.N = l.low(8)
	case api.ImmRef:
		x.T = []api.ValType{l.val()}
		l.bad = l.bad || x.T[0] > 0x70
	case api.ImmTypes:
		for n := l.number(); n > 0 && !l.bad; n-- {
			x.T = append(x.T, l.val())
		}
	}
}

// plain is the list with nil wherever a list has no elements, and memory of its own.
func plain(l []api.Instr) []api.Instr {
	var list []api.Instr
	for _, x := range l {
		x.L, x.T = append([]uint32(nil), x.L...), append([]api.ValType(nil), x.T...)
		x.Body, x.Else = plain(x.Body), plain(x.Else)
		list = append(list, x)
	}
	return list
}

// equal tells whether both are the same: what Same is held against.
func equal(a, b []api.Instr) bool {
	return reflect.DeepEqual(plain(a), plain(b))
}

// hold holds Expr and Skip at b[at] against the document's words.
func hold(t *testing.T, b []byte, at int) {
	t.Helper()
	var want []api.Instr
	next, depth, datas, e := 0, 0, false, api.ErrArg
	if at >= 0 && at <= len(b) {
		l := look{b: b, at: at}
		want, _ = l.list(0, false)
		next, depth, datas, e = l.at, l.depth, l.datas, api.OK
		if l.bad {
			next, depth, datas, e = 0, 0, false, api.ErrForm
		}
	}
	if n, d, is, f := code.Skip(b, at); n != next || d != depth || is != datas || f != e {
		t.Fatalf("Skip(%x, %d) = %d, %d, %v, %v; want %d, %d, %v, %v", b, at, n, d, is, f, next, depth, datas, e)
	}
	if depth > api.MaxNest {
		next, e = 0, api.ErrLimit
	}
	if e != api.OK {
		want = nil
	}
	if l, n, f := code.Expr(b, at); !equal(l, want) || n != next || f != e {
		t.Fatalf("Expr(%x, %d) = %v, %d, %v; want %v, %d, %v", b, at, l, n, f, want, next, e)
	}
}
