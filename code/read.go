package code

import (
	"jacquard/api"
	"jacquard/leb"
	"jacquard/ops"
	"jacquard/types"
)

// reader reads one thing behind the other. What is wrong takes it to the end of b, where nothing is to be read:
// so all that is asked of it afterwards is wrong, too, and nobody has to look in between.
type reader struct {
	b     []byte
	at    int
	wrong bool
}

// open is what has begun and has not ended: a block, a loop or an if, or, below all of these, the expression itself,
// which is kept as if it were the Body of an instruction of Op 0.
type open struct {
	x     api.Instr
	other bool // 05 has been read
}

// walk is a way over the bytes of an expression.
type walk struct {
	reader
	keep  bool // else what is read is not kept
	opens []open
	list  []api.Instr // the expression, when it has ended
	depth int         // the greatest one so far
	datas bool
}

// over goes over the expression that begins at b[at].
func over(b []byte, at int, keep bool) (walk, api.Errno) {
	if at < 0 || at > len(b) {
		return walk{}, api.ErrArg
	}
	w := walk{reader: reader{b: b, at: at}, keep: keep, opens: make([]open, 1)}
	for len(w.opens) > 0 && !w.wrong {
		w.step()
	}
	if w.wrong {
		return walk{}, api.ErrForm
	}
	return w, api.OK
}

// step reads an instruction, or one of the two bytes that stand between instructions.
func (w *walk) step() {
	switch c := w.one(); c {
	case otherMark:
		w.turn()
	case endMark:
		w.end()
	default:
		w.instr(c)
	}
}

// instr reads the instruction that the byte c, which has been read, begins.
func (w *walk) instr(c byte) {
	o := w.op(c)
	info, e := ops.Of(o)
	if e != api.OK {
		w.fail()
		return
	}
	x := api.Instr{Op: o}
	w.behind(&x, info.Imm)
	w.datas = w.datas || namesData(o)
	if info.Imm != api.ImmBlock {
		w.add(x)
		return
	}
	w.depth = max(w.depth, len(w.opens))
	// Too deep an expression is gone over to its end, as it may be wrong there, but nobody is answered it.
	w.keep = w.keep && w.depth <= api.MaxNest
	w.opens = append(w.opens, open{x: x})
}

// turn goes from an if's Body to its Else.
func (w *walk) turn() {
	top := &w.opens[len(w.opens)-1]
	if top.x.Op != api.OpIf || top.other {
		w.fail()
		return
	}
	top.other = true
}

// end ends what was opened last.
func (w *walk) end() {
	i := len(w.opens) - 1
	x := w.opens[i].x
	w.opens = w.opens[:i]
	if i == 0 {
		w.list = x.Body
		return
	}
	w.add(x)
}

// add lays x behind what has been read of what was opened last.
func (w *walk) add(x api.Instr) {
	if !w.keep {
		return
	}
	top := &w.opens[len(w.opens)-1]
	if top.other {
		top.x.Else = append(top.x.Else, x)
	} else {
		top.x.Body = append(top.x.Body, x)
	}
}

// behind reads what stands behind the instruction x, which is of the kind imm.
func (r *reader) behind(x *api.Instr, imm api.Imm) {
	switch imm {
	case api.ImmBlock:
		x.Block = r.block()
	case api.ImmLabel, api.ImmFunc, api.ImmLocal, api.ImmGlobal, api.ImmTable, api.ImmElem, api.ImmData:
		x.A = r.number()
	case api.ImmLabels:
		x.L = list(r, r.number)
		x.L = append(x.L, r.number())
	case api.ImmTypeTable, api.ImmElemTable, api.ImmTables:
		x.A = r.number()
		x.B = r.number()
	case api.ImmDataMem:
		x.A = r.number()
		r.mem()
	case api.ImmMem:
		r.mem()
	case api.ImmMems:
		r.mem()
		r.mem()
	case api.ImmPlace:
		x.A = r.number()
		x.N = uint64(r.number())
	case api.ImmPlaceLane:
		x.A = r.number()
		x.N = uint64(r.number())
		x.B = uint32(r.one())
	case api.ImmLane:
		x.B = uint32(r.one())
	case api.ImmLanes, api.ImmV128:
		copy(x.V[:], r.bytes(len(x.V)))
	case api.ImmI32:
		x.N = uint64(uint32(r.signed(32)))
	case api.ImmI64:
		x.N = uint64(r.signed(64))
	case api.ImmF32:
		x.N = r.word(4)
	case api.ImmF64:
		x.N = r.word(8)
	case api.ImmRef:
		x.T = []api.ValType{r.ref()}
	case api.ImmTypes:
		x.T = list(r, r.val)
	}
}

// list reads a counted list, each part of it by the function that is handed in.
func list[T any](r *reader, part func() T) []T {
	n := r.number()
	// A few bytes may promise 2^32 - 1 parts: no list is made for more than there are bytes.
	if uint64(n) > uint64(len(r.b)-r.at) {
		r.fail()
		return nil
	}
	l := make([]T, n)
	for i := range l {
		l[i] = part()
	}
	return l
}

// op reads the number of the instruction that the byte c, which has been read, begins.
func (r *reader) op(c byte) api.Op {
	if c < firstPage || c > lastPage {
		return api.Op(c)
	}
	n := r.number()
	if n >= byteValues {
		r.fail()
		return 0
	}
	return api.Op(c)<<8 + api.Op(n)
}

// block reads a block's type.
func (r *reader) block() api.Block {
	c := r.peek()
	switch {
	case c == noTypeMark:
		r.one()
		return api.Block{Kind: api.BlockNone}
	case types.Is(api.ValType(c)):
		return api.Block{Kind: api.BlockVal, Val: r.val()}
	}
	n := r.signed(typeWidth)
	if n < 0 {
		r.fail()
		return api.Block{}
	}
	return api.Block{Kind: api.BlockType, Type: uint32(n)}
}

// number reads an unsigned number.
func (r *reader) number() uint32 {
	n, next, e := leb.U(r.b, r.at, numberWidth)
	r.pass(next, e)
	return uint32(n)
}

// signed reads a signed number of the width w.
func (r *reader) signed(w int) int64 {
	n, next, e := leb.S(r.b, r.at, w)
	r.pass(next, e)
	return n
}

// val reads a value's type.
func (r *reader) val() api.ValType {
	t, next, e := types.Val(r.b, r.at)
	r.pass(next, e)
	return t
}

// ref reads a reference's type.
func (r *reader) ref() api.ValType {
	t := r.val()
	if !types.IsRef(t) {
		r.fail()
	}
	return t
}

// mem reads the byte that stands where a memory's index might.
func (r *reader) mem() {
	if r.one() != 0 {
		r.fail()
	}
}

// word reads n bytes as one number, the lowest first.
func (r *reader) word(n int) uint64 {
	word := uint64(0)
	for i, c := range r.bytes(n) {
		word |= uint64(c) << (8 * i)
	}
	return word
}

// one reads a byte.
func (r *reader) one() byte {
	c := r.peek()
	r.bytes(1)
	return c
}

// peek is the next byte, which is not read by that; 0, if there is none.
func (r *reader) peek() byte {
	if r.at == len(r.b) {
		return 0
	}
	return r.b[r.at]
}

// bytes reads n bytes, as a piece of b itself: its callers copy them.
func (r *reader) bytes(n int) []byte {
	if n > len(r.b)-r.at {
		r.fail()
		return nil
	}
	r.at += n
	return r.b[r.at-n : r.at : r.at]
}

// pass goes on behind what has been read, if it could be.
func (r *reader) pass(next int, e api.Errno) {
	if e != api.OK {
		r.fail()
		return
	}
	r.at = next
}

func (r *reader) fail() {
	r.wrong = true
	r.at = len(r.b)
}
