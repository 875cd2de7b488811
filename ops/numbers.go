package ops

import "jacquard/api"

// What families of several types are named alike.
const (
	counts     = "clz ctz popcnt"
	wholeTwos  = "add sub mul div_s div_u rem_s rem_u and or xor shl shr_s shr_u rotl rotr"
	wholeThans = "eq ne lt_s lt_u gt_s gt_u le_s le_u ge_s ge_u"
	floatOnes  = "abs neg ceil floor trunc nearest sqrt"
	floatTwos  = "add sub mul div min max copysign"
	floatThans = "eq ne lt gt le ge"
	cuts32     = "trunc_f32_s trunc_f32_u"
	cuts64     = "trunc_f64_s trunc_f64_u"
	heldCuts32 = "trunc_sat_f32_s trunc_sat_f32_u"
	heldCuts64 = "trunc_sat_f64_s trunc_sat_f64_u"
	floatsOf32 = "convert_i32_s convert_i32_u"
	floatsOf64 = "convert_i64_s convert_i64_u"
)

// A list is named after most of what is in it: what it has besides are the numbers that lie between.

func controls() list {
	return list{
		{first: 0x00, names: "unreachable nop"},
		{first: 0x02, names: "block loop if", imm: api.ImmBlock},
		{first: 0x0c, names: "br br_if", imm: api.ImmLabel},
		{first: 0x0e, names: "br_table", imm: api.ImmLabels},
		{first: 0x0f, names: "return"},
		{first: 0x10, names: "call", imm: api.ImmFunc},
		{first: 0x11, names: "call_indirect", imm: api.ImmTypeTable},
		{first: 0x1a, names: "drop select"},
		{first: 0x1c, names: "select_t", imm: api.ImmTypes},
		{first: 0x20, names: "local.get set tee", imm: api.ImmLocal},
		{first: 0x23, names: "global.get set", imm: api.ImmGlobal},
		{first: 0x25, names: "table.get set", imm: api.ImmTable},
	}
}

func places() list {
	return list{
		{first: 0x28, names: "i32.load", types: "i:i", imm: api.ImmPlace, bits: 32},
		{first: 0x29, names: "i64.load", types: "i:l", imm: api.ImmPlace, bits: 64},
		{first: 0x2a, names: "f32.load", types: "i:f", imm: api.ImmPlace, bits: 32},
		{first: 0x2b, names: "f64.load", types: "i:d", imm: api.ImmPlace, bits: 64},
		{first: 0x2c, names: "i32.load8_s load8_u", types: "i:i", imm: api.ImmPlace, bits: 8},
		{first: 0x2e, names: "i32.load16_s load16_u", types: "i:i", imm: api.ImmPlace, bits: 16},
		{first: 0x30, names: "i64.load8_s load8_u", types: "i:l", imm: api.ImmPlace, bits: 8},
		{first: 0x32, names: "i64.load16_s load16_u", types: "i:l", imm: api.ImmPlace, bits: 16},
		{first: 0x34, names: "i64.load32_s load32_u", types: "i:l", imm: api.ImmPlace, bits: 32},
		{first: 0x36, names: "i32.store", types: "ii:", imm: api.ImmPlace, bits: 32},
		{first: 0x37, names: "i64.store", types: "il:", imm: api.ImmPlace, bits: 64},
		{first: 0x38, names: "f32.store", types: "if:", imm: api.ImmPlace, bits: 32},
		{first: 0x39, names: "f64.store", types: "id:", imm: api.ImmPlace, bits: 64},
		{first: 0x3a, names: "i32.store8", types: "ii:", imm: api.ImmPlace, bits: 8},
		{first: 0x3b, names: "i32.store16", types: "ii:", imm: api.ImmPlace, bits: 16},
		{first: 0x3c, names: "i64.store8", types: "il:", imm: api.ImmPlace, bits: 8},
		{first: 0x3d, names: "i64.store16", types: "il:", imm: api.ImmPlace, bits: 16},
		{first: 0x3e, names: "i64.store32", types: "il:", imm: api.ImmPlace, bits: 32},
		{first: 0x3f, names: "memory.size", types: ":i", imm: api.ImmMem},
		{first: 0x40, names: "memory.grow", types: "i:i", imm: api.ImmMem},
	}
}

func comparisons() list {
	return list{
		{first: 0x41, names: "i32.const", types: ":i", imm: api.ImmI32},
		{first: 0x42, names: "i64.const", types: ":l", imm: api.ImmI64},
		{first: 0x43, names: "f32.const", types: ":f", imm: api.ImmF32},
		{first: 0x44, names: "f64.const", types: ":d", imm: api.ImmF64},
		{first: 0x45, names: "i32.eqz", types: "i:i"},
		{first: 0x46, names: "i32." + wholeThans, types: "ii:i"},
		{first: 0x50, names: "i64.eqz", types: "l:i"},
		{first: 0x51, names: "i64." + wholeThans, types: "ll:i"},
		{first: 0x5b, names: "f32." + floatThans, types: "ff:i"},
		{first: 0x61, names: "f64." + floatThans, types: "dd:i"},
	}
}

func operators() list {
	return list{
		{first: 0x67, names: "i32." + counts, types: "i:i"},
		{first: 0x6a, names: "i32." + wholeTwos, types: "ii:i"},
		{first: 0x79, names: "i64." + counts, types: "l:l"},
		{first: 0x7c, names: "i64." + wholeTwos, types: "ll:l"},
		{first: 0x8b, names: "f32." + floatOnes, types: "f:f"},
		{first: 0x92, names: "f32." + floatTwos, types: "ff:f"},
		{first: 0x99, names: "f64." + floatOnes, types: "d:d"},
		{first: 0xa0, names: "f64." + floatTwos, types: "dd:d"},
	}
}

func conversions() list {
	return list{
		{first: 0xa7, names: "i32.wrap_i64", types: "l:i"},
		{first: 0xa8, names: "i32." + cuts32, types: "f:i"},
		{first: 0xaa, names: "i32." + cuts64, types: "d:i"},
		{first: 0xac, names: "i64.extend_i32_s extend_i32_u", types: "i:l"},
		{first: 0xae, names: "i64." + cuts32, types: "f:l"},
		{first: 0xb0, names: "i64." + cuts64, types: "d:l"},
		{first: 0xb2, names: "f32." + floatsOf32, types: "i:f"},
		{first: 0xb4, names: "f32." + floatsOf64, types: "l:f"},
		{first: 0xb6, names: "f32.demote_f64", types: "d:f"},
		{first: 0xb7, names: "f64." + floatsOf32, types: "i:d"},
		{first: 0xb9, names: "f64." + floatsOf64, types: "l:d"},
		{first: 0xbb, names: "f64.promote_f32", types: "f:d"},
		{first: 0xbc, names: "i32.reinterpret_f32", types: "f:i"},
		{first: 0xbd, names: "i64.reinterpret_f64", types: "d:l"},
		{first: 0xbe, names: "f32.reinterpret_i32", types: "i:f"},
		{first: 0xbf, names: "f64.reinterpret_i64", types: "l:d"},
		{first: 0xc0, names: "i32.extend8_s extend16_s", types: "i:i"},
		{first: 0xc2, names: "i64.extend8_s extend16_s extend32_s", types: "l:l"},
	}
}

func references() list {
	return list{
		{first: 0xd0, names: "ref.null", imm: api.ImmRef},
		{first: 0xd1, names: "ref.is_null"},
		{first: 0xd2, names: "ref.func", imm: api.ImmFunc},
	}
}

func heldCuts() list {
	return list{
		{first: 0xfc00, names: "i32." + heldCuts32, types: "f:i"},
		{first: 0xfc02, names: "i32." + heldCuts64, types: "d:i"},
		{first: 0xfc04, names: "i64." + heldCuts32, types: "f:l"},
		{first: 0xfc06, names: "i64." + heldCuts64, types: "d:l"},
	}
}

func bulks() list {
	return list{
		{first: 0xfc08, names: "memory.init", types: "iii:", imm: api.ImmDataMem},
		{first: 0xfc09, names: "data.drop", imm: api.ImmData},
		{first: 0xfc0a, names: "memory.copy", types: "iii:", imm: api.ImmMems},
		{first: 0xfc0b, names: "memory.fill", types: "iii:", imm: api.ImmMem},
		{first: 0xfc0c, names: "table.init", imm: api.ImmElemTable},
		{first: 0xfc0d, names: "elem.drop", imm: api.ImmElem},
		{first: 0xfc0e, names: "table.copy", imm: api.ImmTables},
		{first: 0xfc0f, names: "table.grow size fill", imm: api.ImmTable},
	}
}
