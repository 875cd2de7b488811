package code_test

import (
	"bytes"
	"testing"

	"jacquard/api"
	"jacquard/code"
	"jacquard/ops"
)

// maker lays the bytes of instructions of all kinds, in short forms and longer ones, and makes the instructions with them.
type maker struct {
	dice
	b    []byte
	all  []api.Op
	left int // how many instructions there may be yet
}

// number lays one, in some form.
func (m *maker) number() uint32 {
	n := pick[uint32](&m.dice, 0, 1, 2, 5, 0x0b, 0x3f, 0x40, 0x7f, 0x80, 0xff, 0x3fff, 0x4000, 1<<31, 1<<32-1, uint32(m.roll(1<<31)))
	m.groups(uint64(n))
	return n
}

// groups lays n, an unsigned number of 32 bits.
func (m *maker) groups(n uint64) {
	count := 1
	for n>>(7*count) != 0 {
		count++
	}
	m.digits(int64(n), count, 5)
}

// digits lays so many groups of n, or sometimes more, but most at most.
func (m *maker) digits(n int64, count, most int) {
	if m.roll(4) == 0 {
		count += m.roll(most - count + 1)
	}
	for i := range count {
		c := byte(n >> (7 * i) & 127)
		if i < count-1 {
			c += 128
		}
		m.b = append(m.b, c)
	}
}

// signed lays n, a number of a width of so many groups at most.
func (m *maker) signed(n int64, most int) {
	count := 1
	for n>>(7*count-1) != 0 && n>>(7*count-1) != -1 {
		count++
	}
	m.digits(n, count, most)
}

func (m *maker) bytes(n int) []byte {
	for range n {
		m.b = append(m.b, pick[byte](&m.dice, 0, 1, 5, 0x0b, 0x40, 0x7f, 0x80, 0xff, byte(m.roll(256))))
	}
	return m.b[len(m.b)-n:]
}

func (m *maker) val() api.ValType {
	t := pick(&m.dice, api.I32, api.I64, api.F32, api.F64, api.V128, api.FuncRef, api.ExternRef)
	m.b = append(m.b, byte(t))
	return t
}

func (m *maker) low(n int) uint64 {
	word := uint64(0)
	for i, c := range m.bytes(n) {
		word += uint64(c) << (8 * i)
	}
	return word
}

func (m *maker) block() api.Block {
	switch m.roll(3) {
	case 0:
		m.b = append(m.b, 0x40)
		return api.Block{}
	case 1:
		return api.Block{Kind: api.BlockVal, Val: m.val()}
	}
	n := pick[uint32](&m.dice, 0, 1, 5, 63, 64, 127, 128, 8191, 8192, 1<<31-1, 1<<31, 1<<32-1, uint32(m.roll(1<<31)))
	m.signed(int64(n), 5)
	return api.Block{Kind: api.BlockType, Type: n}
}

// list lays up to so many instructions.
func (m *maker) list(most int) []api.Instr {
	var l []api.Instr
	for range m.roll(most + 1) {
		if m.left > 0 {
			m.left--
			l = append(l, m.instr())
		}
	}
	return l
}

func (m *maker) instr() api.Instr {
	x := api.Instr{Op: pick(&m.dice, m.all...)}
	if m.roll(3) == 0 {
		x.Op = pick[api.Op](&m.dice, 2, 3, 4, 4)
	}
	info, _ := ops.Of(x.Op)
	if x.Op < 256 {
		m.b = append(m.b, byte(x.Op))
	} else {
		m.b = append(m.b, byte(x.Op>>8))
		m.groups(uint64(x.Op % 256))
	}
	m.behind(&x, info.Imm)
	return x
}

func (m *maker) behind(x *api.Instr, imm api.Imm) {
	switch imm {
	case api.ImmBlock:
		x.Block, x.Body = m.block(), m.list(4)
		if x.Op == 4 && m.roll(2) == 0 {
			m.b = append(m.b, 5)
			x.Else = m.list(4)
		}
		m.b = append(m.b, 0x0b)
	case api.ImmLabel, api.ImmFunc, api.ImmLocal, api.ImmGlobal, api.ImmTable, api.ImmElem, api.ImmData:
		x.A = m.number()
	case api.ImmLabels:
		n := m.roll(5)
		m.groups(uint64(n))
		for range n + 1 {
			x.L = append(x.L, m.number())
		}
	case api.ImmTypeTable, api.ImmElemTable, api.ImmTables:
		x.A, x.B = m.number(), m.number()
	case api.ImmDataMem:
		x.A = m.number()
		m.b = append(m.b, 0)
	case api.ImmMem:
		m.b = append(m.b, 0)
	case api.ImmMems:
		m.b = append(m.b, 0, 0)
	case api.ImmPlace:
		x.A, x.N = m.number(), uint64(m.number())
	case api.ImmPlaceLane:
		x.A, x.N, x.B = m.number(), uint64(m.number()), uint32(m.low(1))
	case api.ImmLane:
		x.B = uint32(m.low(1))
	case api.ImmLanes, api.ImmV128:
		copy(x.V[:], m.bytes(16))
	case api.ImmI32:
		n := pick[int32](&m.dice, 0, 1, 63, 64, -1, -64, -65, 1<<31-1, -1<<31, int32(m.roll(1<<31)))
		m.signed(int64(n), 5)
		x.N = uint64(uint32(n))
	case api.ImmI64:
		n := pick[int64](&m.dice, 0, 1, 63, 64, -1, -64, -65, 1<<31, 1<<62, 1<<63-1, -1<<62, -1<<63, int64(m.roll(1<<31))<<m.roll(33))
		m.signed(n, 10)
		x.N = uint64(n)
	case api.ImmF32:
		x.N = m.low(4)
	case api.ImmF64:
		x.N = m.low(8)
	case api.ImmRef:
		x.T = vals(pick(&m.dice, api.FuncRef, api.ExternRef))
		m.b = append(m.b, byte(x.T[0]))
	case api.ImmTypes:
		n := m.roll(5)
		m.groups(uint64(n))
		for range n {
			x.T = append(x.T, m.val())
		}
	}
}

// expr is the bytes of some expression, and it.
func (m *maker) expr() ([]byte, []api.Instr) {
	m.b, m.left = nil, 40
	l := m.list(6)
	return row(m.b, 0x0b), l
}

// P11.1, P11.2, P11.4: many expressions, read, put, and read again.
func TestMany(t *testing.T) {
	m := maker{dice: 3, all: ops.All()}
	for range 20000 {
		b, l := m.expr()
		behind := m.bytes(m.roll(4))
		all := row(b, behind...)
		got, next, e := code.Expr(all, 0)
		if !equal(got, l) || next != len(b) || e != api.OK || !code.May(got) {
			t.Fatalf("Expr(%x) = %v, %d, %v; want %v", all, got, next, e, l)
		}
		if next, d, is, e := code.Skip(all, 0); next != len(b) || d != depth(l) || is != datas(l) || e != api.OK {
			t.Fatalf("Skip(%x) = %d, %d, %v, %v", all, next, d, is, e)
		}
		put, e := code.Put(got)
		if len(put) > len(b) || e != api.OK {
			t.Fatalf("Put of Expr(%x) = %x, %v", b, put, e)
		}
		if again, next, e := code.Expr(put, 0); !equal(again, l) || next != len(put) || e != api.OK {
			t.Fatalf("Expr(%x) = %v, %d, %v; want %v", put, again, next, e, l)
		}
		if twice, _ := code.Put(l); !bytes.Equal(put, twice) {
			t.Fatalf("Put of the same: %x, %x", put, twice)
		}
	}
}

// P11.4: no beginning of an expression's bytes is one.
func TestBeginnings(t *testing.T) {
	m := maker{dice: 4, all: ops.All()}
	for range 1500 {
		b, _ := m.expr()
		for n := range b {
			if _, _, e := code.Expr(b[:n], 0); e != api.ErrForm {
				t.Fatalf("Expr(%x) = %v", b[:n], e)
			}
			if _, _, _, e := code.Skip(b[:n], 0); e != api.ErrForm {
				t.Fatalf("Skip(%x) = %v", b[:n], e)
			}
		}
	}
}

// P11.1, P11.2: expressions of which some bytes are others, gone, or twice there, held against the document's words at each place.
func TestChanged(t *testing.T) {
	m := maker{dice: 5, all: ops.All()}
	for range 3000 {
		b, _ := m.expr()
		for range 1 + m.roll(3) {
			at := m.roll(len(b))
			switch m.roll(3) {
			case 0:
				b[at] = pick[byte](&m.dice, 0, 1, 2, 4, 5, 0x0b, 0x0e, 0x1c, 0x3f, 0x40, 0x41, 0x7f, 0x80, 0xfc, 0xfd, 0xff, byte(m.roll(256)))
			case 1:
				b = append(b[:at], b[min(at+1+m.roll(3), len(b)):]...)
			case 2:
				b = row(b[:at], b[max(0, at-m.roll(3)):]...)
			}
			if len(b) == 0 {
				b = []byte{0x0b}
			}
		}
		for at := -1; at <= len(b)+1; at++ {
			hold(t, b, at)
		}
	}
}

// P11.1, P11.2: all rows of a few bytes that say much.
func TestAllShort(t *testing.T) {
	letters := []byte{0x01, 0x02, 0x04, 0x05, 0x0b, 0x0e, 0x1c, 0x3f, 0x40, 0x41, 0x7f, 0x80, 0xd0, 0xfc, 0x00}
	var grow func(b []byte, left int)
	grow = func(b []byte, left int) {
		hold(t, b, 0)
		if left == 0 {
			return
		}
		for _, c := range letters {
			grow(append(b, c), left-1)
		}
	}
	grow(nil, 5)
}

// Rule 5: what is handed in stays as it was, with the room behind it.
func TestHandedIn(t *testing.T) {
	m := maker{dice: 6, all: ops.All()}
	for range 500 {
		b, l := m.expr()
		room := row(b, 1, 2, 3, 4)
		code.Expr(room[:len(b)], 0)
		code.Skip(room[:len(b)], 0)
		if !bytes.Equal(room, row(b, 1, 2, 3, 4)) {
			t.Fatalf("%x became %x", b, room)
		}
		was := plain(l)
		roomy := append(append([]api.Instr(nil), l...), api.Instr{Op: 77}, api.Instr{Op: 78})
		list := roomy[:len(l)]
		code.Put(list)
		code.May(list)
		code.Count(list)
		code.Depth(list)
		code.Datas(list)
		code.Same(list, was)
		if !equal(list, was) || roomy[len(l)].Op != 77 || roomy[len(l)+1].Op != 78 {
			t.Fatalf("%v became %v", was, roomy)
		}
	}
}

// clearAll writes over all of a list, the room of it and of the lists within it, too.
func clearAll(l []api.Instr) {
	for _, x := range l {
		clearAll(x.Body)
		clearAll(x.Else)
		clear(x.L[:cap(x.L)])
		clear(x.T[:cap(x.T)])
	}
	clear(l[:cap(l)])
}

// Rule 5: what is answered is new memory.
func TestAnswered(t *testing.T) {
	m := maker{dice: 7, all: ops.All()}
	for range 500 {
		b, l := m.expr()
		was := plain(l)
		first, _, _ := code.Expr(b, 0)
		second, _, _ := code.Expr(b, 0)
		put, _ := code.Put(l)
		short, _ := code.Put(l)
		whole := row(short)
		clearAll(first)
		clear(put[:cap(put)])
		if third, _, _ := code.Expr(b, 0); !equal(second, was) || !equal(third, was) || !equal(l, was) {
			t.Fatalf("%v became %v, %v", was, second, third)
		}
		if again, _ := code.Put(l); !bytes.Equal(short, whole) || !bytes.Equal(again, whole) {
			t.Fatalf("%x became %x, %x", whole, short, again)
		}
		clear(b)
		if !equal(second, was) {
			t.Fatalf("%v became %v with its bytes", was, second)
		}
	}
}

// Rule 5: no two lists of one answer share any memory: each is written at its end's room, and the others stay.
func TestListsOfOneAnswer(t *testing.T) {
	m := maker{dice: 8, all: ops.All()}
	for range 300 {
		b, l := m.expr()
		got, _, _ := code.Expr(b, 0)
		growAll(got)
		if !equal(got, l) {
			t.Fatalf("%v became %v", l, got)
		}
	}
}

// growAll writes to the room behind each list.
func growAll(l []api.Instr) {
	for _, x := range l {
		growAll(x.Body)
		growAll(x.Else)
		clear(x.L[len(x.L):cap(x.L)])
		clear(x.T[len(x.T):cap(x.T)])
		_ = append(x.L, 0xdead)
		_ = append(x.T, 0xee)
	}
	_ = append(l, api.Instr{Op: 0xdead})
}
