package code

import (
	"jacquard/api"
	"jacquard/ops"
	"jacquard/types"
)

// mayBe tells whether x is an instruction, of what is within it only whether anything may be there.
func mayBe(x *api.Instr) bool {
	info, e := ops.Of(x.Op)
	if e != api.OK || !fits(x, info.Imm) {
		return false
	}
	named := fields(x, info.Imm)
	return sameFields(&named, x) && sameSizes(&named, x)
}

// fields is x with those fields alone that an instruction of the kind imm has.
func fields(x *api.Instr, imm api.Imm) api.Instr {
	named := api.Instr{Op: x.Op}
	switch imm {
	case api.ImmBlock:
		named.Block, named.Body = x.Block, x.Body
		if x.Op == api.OpIf {
			named.Else = x.Else
		}
	case api.ImmLabel, api.ImmFunc, api.ImmLocal, api.ImmGlobal, api.ImmTable, api.ImmElem, api.ImmData, api.ImmDataMem:
		named.A = x.A
	case api.ImmLabels:
		named.L = x.L
	case api.ImmTypeTable, api.ImmElemTable, api.ImmTables:
		named.A, named.B = x.A, x.B
	case api.ImmPlace:
		named.A, named.N = x.A, x.N
	case api.ImmPlaceLane:
		named.A, named.N, named.B = x.A, x.N, x.B
	case api.ImmLane:
		named.B = x.B
	case api.ImmLanes, api.ImmV128:
		named.V = x.V
	case api.ImmI32, api.ImmI64, api.ImmF32, api.ImmF64:
		named.N = x.N
	case api.ImmRef, api.ImmTypes:
		named.T = x.T
	}
	return named
}

// fits tells whether the fields of x that an instruction of the kind imm has are such that they can be laid.
func fits(x *api.Instr, imm api.Imm) bool {
	switch imm {
	case api.ImmBlock:
		return fitsBlock(x.Block)
	case api.ImmLabels:
		return len(x.L) > 0
	case api.ImmPlace, api.ImmI32, api.ImmF32:
		return x.N < words
	case api.ImmPlaceLane:
		return x.N < words && x.B < byteValues
	case api.ImmLane:
		return x.B < byteValues
	case api.ImmRef:
		return len(x.T) == 1 && types.IsRef(x.T[0])
	case api.ImmTypes:
		for _, t := range x.T {
			if !types.Is(t) {
				return false
			}
		}
	}
	return true
}

// fitsBlock tells whether t may be a block's type: what its kind does not name is zero.
func fitsBlock(t api.Block) bool {
	switch t.Kind {
	case api.BlockNone:
		return t == api.Block{}
	case api.BlockVal:
		return t == api.Block{Kind: t.Kind, Val: t.Val} && types.Is(t.Val)
	case api.BlockType:
		return t == api.Block{Kind: t.Kind, Type: t.Type}
	}
	return false
}
