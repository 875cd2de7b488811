package code

import (
	"jacquard/api"
	"jacquard/leb"
	"jacquard/ops"
)

// part is a list that is being laid: what is left of it, and the list that follows it behind 05, if any does.
type part struct{ rest, other []api.Instr }

// lay is the bytes of l, which may be an expression.
func lay(l []api.Instr) []byte {
	var b []byte
	todo := []part{{rest: l}}
	for len(todo) > 0 {
		top := &todo[len(todo)-1]
		switch {
		case len(top.rest) > 0:
			x := &top.rest[0]
			top.rest = top.rest[1:]
			b = layInstr(b, x)
			if opens(x.Op) {
				todo = append(todo, part{x.Body, x.Else})
			}
		case len(top.other) > 0:
			b = append(b, otherMark)
			top.rest, top.other = top.other, nil
		default:
			b = append(b, endMark)
			todo = todo[:len(todo)-1]
		}
	}
	return b
}

// layInstr lays x behind b, without what is within it.
func layInstr(b []byte, x *api.Instr) []byte {
	info, _ := ops.Of(x.Op)
	if x.Op < byteValues {
		return layBehind(append(b, byte(x.Op)), x, info.Imm)
	}
	b = append(b, byte(x.Op>>8))
	return layBehind(layNumbers(b, uint64(x.Op%byteValues)), x, info.Imm)
}

// layBehind lays behind b what stands behind the instruction x, which is of the kind imm.
func layBehind(b []byte, x *api.Instr, imm api.Imm) []byte {
	switch imm {
	case api.ImmBlock:
		return layBlock(b, x.Block)
	case api.ImmLabel, api.ImmFunc, api.ImmLocal, api.ImmGlobal, api.ImmTable, api.ImmElem, api.ImmData:
		return layNumbers(b, uint64(x.A))
	case api.ImmLabels:
		b = layNumbers(b, uint64(len(x.L)-1))
		for _, n := range x.L {
			b = layNumbers(b, uint64(n))
		}
	case api.ImmTypeTable, api.ImmElemTable, api.ImmTables:
		return layNumbers(b, uint64(x.A), uint64(x.B))
	case api.ImmDataMem:
		return append(layNumbers(b, uint64(x.A)), 0)
	case api.ImmMem:
		return append(b, 0)
	case api.ImmMems:
		return append(b, 0, 0)
	case api.ImmPlace:
		return layNumbers(b, uint64(x.A), x.N)
	case api.ImmPlaceLane:
		return append(layNumbers(b, uint64(x.A), x.N), byte(x.B))
	case api.ImmLane:
		return append(b, byte(x.B))
	case api.ImmLanes, api.ImmV128:
		return append(b, x.V[:]...)
	case api.ImmI32:
		return append(b, leb.PutS(int64(int32(x.N)))...)
	case api.ImmI64:
		return append(b, leb.PutS(int64(x.N))...)
	case api.ImmF32:
		return layWord(b, x.N, 4)
	case api.ImmF64:
		return layWord(b, x.N, 8)
	case api.ImmRef:
		return append(b, byte(x.T[0]))
	case api.ImmTypes:
		b = layNumbers(b, uint64(len(x.T)))
		for _, t := range x.T {
			b = append(b, byte(t))
		}
	}
	return b
}

func layBlock(b []byte, t api.Block) []byte {
	switch t.Kind {
	case api.BlockVal:
		return append(b, byte(t.Val))
	case api.BlockType:
		return append(b, leb.PutS(int64(t.Type))...)
	}
	return append(b, noTypeMark)
}

func layNumbers(b []byte, l ...uint64) []byte {
	for _, n := range l {
		b = append(b, leb.PutU(n)...)
	}
	return b
}

// layWord lays the n lowest bytes of word, the lowest first.
func layWord(b []byte, word uint64, n int) []byte {
	for range n {
		b = append(b, byte(word))
		word >>= 8
	}
	return b
}
