package ops

import "jacquard/api"

// What families of several shapes are named alike.
const (
	signs     = "abs neg"
	laneTests = "all_true bitmask"
	shifts    = "shl shr_s shr_u"
	heldSums  = "add add_sat_s add_sat_u sub sub_sat_s sub_sat_u"
	leastMost = "min_s min_u max_s max_u"
	laneTwos  = "add sub mul div min max pmin pmax"
)

func vectorPlaces() list {
	return list{
		{first: 0xfd00, names: "v128.load", types: "i:v", imm: api.ImmPlace, bits: 128},
		{first: 0xfd01, names: "v128.load8x8_s load8x8_u load16x4_s load16x4_u load32x2_s load32x2_u", types: "i:v", imm: api.ImmPlace, bits: 64},
		{first: 0xfd07, names: "v128.load8_splat", types: "i:v", imm: api.ImmPlace, bits: 8},
		{first: 0xfd08, names: "v128.load16_splat", types: "i:v", imm: api.ImmPlace, bits: 16},
		{first: 0xfd09, names: "v128.load32_splat", types: "i:v", imm: api.ImmPlace, bits: 32},
		{first: 0xfd0a, names: "v128.load64_splat", types: "i:v", imm: api.ImmPlace, bits: 64},
		{first: 0xfd0b, names: "v128.store", types: "iv:", imm: api.ImmPlace, bits: 128},
	}
}

func laneMoves() list {
	return list{
		{first: 0xfd0c, names: "v128.const", types: ":v", imm: api.ImmV128},
		{first: 0xfd0d, names: "i8x16.shuffle", types: "vv:v", imm: api.ImmLanes},
		{first: 0xfd0e, names: "i8x16.swizzle", types: "vv:v"},
		{first: 0xfd0f, names: "i8x16.splat i16x8.splat i32x4.splat", types: "i:v"},
		{first: 0xfd12, names: "i64x2.splat", types: "l:v"},
		{first: 0xfd13, names: "f32x4.splat", types: "f:v"},
		{first: 0xfd14, names: "f64x2.splat", types: "d:v"},
		{first: 0xfd15, names: "i8x16.extract_lane_s extract_lane_u", types: "v:i", imm: api.ImmLane},
		{first: 0xfd17, names: "i8x16.replace_lane", types: "vi:v", imm: api.ImmLane},
		{first: 0xfd18, names: "i16x8.extract_lane_s extract_lane_u", types: "v:i", imm: api.ImmLane},
		{first: 0xfd1a, names: "i16x8.replace_lane", types: "vi:v", imm: api.ImmLane},
		{first: 0xfd1b, names: "i32x4.extract_lane", types: "v:i", imm: api.ImmLane},
		{first: 0xfd1c, names: "i32x4.replace_lane", types: "vi:v", imm: api.ImmLane},
		{first: 0xfd1d, names: "i64x2.extract_lane", types: "v:l", imm: api.ImmLane},
		{first: 0xfd1e, names: "i64x2.replace_lane", types: "vl:v", imm: api.ImmLane},
		{first: 0xfd1f, names: "f32x4.extract_lane", types: "v:f", imm: api.ImmLane},
		{first: 0xfd20, names: "f32x4.replace_lane", types: "vf:v", imm: api.ImmLane},
		{first: 0xfd21, names: "f64x2.extract_lane", types: "v:d", imm: api.ImmLane},
		{first: 0xfd22, names: "f64x2.replace_lane", types: "vd:v", imm: api.ImmLane},
	}
}

func vectorComparisons() list {
	return list{
		{first: 0xfd23, names: "i8x16." + wholeThans, types: "vv:v"},
		{first: 0xfd2d, names: "i16x8." + wholeThans, types: "vv:v"},
		{first: 0xfd37, names: "i32x4." + wholeThans, types: "vv:v"},
		{first: 0xfd41, names: "f32x4." + floatThans, types: "vv:v"},
		{first: 0xfd47, names: "f64x2." + floatThans, types: "vv:v"},
		{first: 0xfd4d, names: "v128.not", types: "v:v"},
		{first: 0xfd4e, names: "v128.and andnot or xor", types: "vv:v"},
		{first: 0xfd52, names: "v128.bitselect", types: "vvv:v"},
		{first: 0xfd53, names: "v128.any_true", types: "v:i"},
	}
}

func lanePlaces() list {
	return list{
		{first: 0xfd54, names: "v128.load8_lane", types: "iv:v", imm: api.ImmPlaceLane, bits: 8},
		{first: 0xfd55, names: "v128.load16_lane", types: "iv:v", imm: api.ImmPlaceLane, bits: 16},
		{first: 0xfd56, names: "v128.load32_lane", types: "iv:v", imm: api.ImmPlaceLane, bits: 32},
		{first: 0xfd57, names: "v128.load64_lane", types: "iv:v", imm: api.ImmPlaceLane, bits: 64},
		{first: 0xfd58, names: "v128.store8_lane", types: "iv:", imm: api.ImmPlaceLane, bits: 8},
		{first: 0xfd59, names: "v128.store16_lane", types: "iv:", imm: api.ImmPlaceLane, bits: 16},
		{first: 0xfd5a, names: "v128.store32_lane", types: "iv:", imm: api.ImmPlaceLane, bits: 32},
		{first: 0xfd5b, names: "v128.store64_lane", types: "iv:", imm: api.ImmPlaceLane, bits: 64},
		{first: 0xfd5c, names: "v128.load32_zero", types: "i:v", imm: api.ImmPlace, bits: 32},
		{first: 0xfd5d, names: "v128.load64_zero", types: "i:v", imm: api.ImmPlace, bits: 64},
	}
}

func lanes8() list {
	return list{
		{first: 0xfd5e, names: "f32x4.demote_f64x2_zero f64x2.promote_low_f32x4", types: "v:v"},
		{first: 0xfd60, names: "i8x16." + signs + " popcnt", types: "v:v"},
		{first: 0xfd63, names: "i8x16." + laneTests, types: "v:i"},
		{first: 0xfd65, names: "i8x16.narrow_i16x8_s narrow_i16x8_u", types: "vv:v"},
		{first: 0xfd67, names: "f32x4.ceil floor trunc nearest", types: "v:v"},
		{first: 0xfd6b, names: "i8x16." + shifts, types: "vi:v"},
		{first: 0xfd6e, names: "i8x16." + heldSums, types: "vv:v"},
		{first: 0xfd74, names: "f64x2.ceil floor", types: "v:v"},
		{first: 0xfd76, names: "i8x16." + leastMost, types: "vv:v"},
		{first: 0xfd7a, names: "f64x2.trunc", types: "v:v"},
		{first: 0xfd7b, names: "i8x16.avgr_u", types: "vv:v"},
		{first: 0xfd7c, names: "i16x8.extadd_pairwise_i8x16_s extadd_pairwise_i8x16_u", types: "v:v"},
		{first: 0xfd7e, names: "i32x4.extadd_pairwise_i16x8_s extadd_pairwise_i16x8_u", types: "v:v"},
	}
}

func lanes16() list {
	return list{
		{first: 0xfd80, names: "i16x8." + signs, types: "v:v"},
		{first: 0xfd82, names: "i16x8.q15mulr_sat_s", types: "vv:v"},
		{first: 0xfd83, names: "i16x8." + laneTests, types: "v:i"},
		{first: 0xfd85, names: "i16x8.narrow_i32x4_s narrow_i32x4_u", types: "vv:v"},
		{first: 0xfd87, names: "i16x8.extend_low_i8x16_s extend_high_i8x16_s extend_low_i8x16_u extend_high_i8x16_u", types: "v:v"},
		{first: 0xfd8b, names: "i16x8." + shifts, types: "vi:v"},
		{first: 0xfd8e, names: "i16x8." + heldSums, types: "vv:v"},
		{first: 0xfd94, names: "f64x2.nearest", types: "v:v"},
		{first: 0xfd95, names: "i16x8.mul", types: "vv:v"},
		{first: 0xfd96, names: "i16x8." + leastMost, types: "vv:v"},
		{first: 0xfd9b, names: "i16x8.avgr_u", types: "vv:v"},
		{first: 0xfd9c, names: "i16x8.extmul_low_i8x16_s extmul_high_i8x16_s extmul_low_i8x16_u extmul_high_i8x16_u", types: "vv:v"},
	}
}

func lanes32() list {
	return list{
		{first: 0xfda0, names: "i32x4." + signs, types: "v:v"},
		{first: 0xfda3, names: "i32x4." + laneTests, types: "v:i"},
		{first: 0xfda7, names: "i32x4.extend_low_i16x8_s extend_high_i16x8_s extend_low_i16x8_u extend_high_i16x8_u", types: "v:v"},
		{first: 0xfdab, names: "i32x4." + shifts, types: "vi:v"},
		{first: 0xfdae, names: "i32x4.add", types: "vv:v"},
		{first: 0xfdb1, names: "i32x4.sub", types: "vv:v"},
		{first: 0xfdb5, names: "i32x4.mul " + leastMost, types: "vv:v"},
		{first: 0xfdba, names: "i32x4.dot_i16x8_s", types: "vv:v"},
		{first: 0xfdbc, names: "i32x4.extmul_low_i16x8_s extmul_high_i16x8_s extmul_low_i16x8_u extmul_high_i16x8_u", types: "vv:v"},
	}
}

func lanes64() list {
	return list{
		{first: 0xfdc0, names: "i64x2." + signs, types: "v:v"},
		{first: 0xfdc3, names: "i64x2." + laneTests, types: "v:i"},
		{first: 0xfdc7, names: "i64x2.extend_low_i32x4_s extend_high_i32x4_s extend_low_i32x4_u extend_high_i32x4_u", types: "v:v"},
		{first: 0xfdcb, names: "i64x2." + shifts, types: "vi:v"},
		{first: 0xfdce, names: "i64x2.add", types: "vv:v"},
		{first: 0xfdd1, names: "i64x2.sub", types: "vv:v"},
		{first: 0xfdd5, names: "i64x2.mul", types: "vv:v"},
		{first: 0xfdd6, names: "i64x2.eq ne lt_s gt_s le_s ge_s", types: "vv:v"},
		{first: 0xfddc, names: "i64x2.extmul_low_i32x4_s extmul_high_i32x4_s extmul_low_i32x4_u extmul_high_i32x4_u", types: "vv:v"},
	}
}

func floatLanes() list {
	return list{
		{first: 0xfde0, names: "f32x4." + signs, types: "v:v"},
		{first: 0xfde3, names: "f32x4.sqrt", types: "v:v"},
		{first: 0xfde4, names: "f32x4." + laneTwos, types: "vv:v"},
		{first: 0xfdec, names: "f64x2." + signs, types: "v:v"},
		{first: 0xfdef, names: "f64x2.sqrt", types: "v:v"},
		{first: 0xfdf0, names: "f64x2." + laneTwos, types: "vv:v"},
		{first: 0xfdf8, names: "i32x4.trunc_sat_f32x4_s trunc_sat_f32x4_u", types: "v:v"},
		{first: 0xfdfa, names: "f32x4.convert_i32x4_s convert_i32x4_u", types: "v:v"},
		{first: 0xfdfc, names: "i32x4.trunc_sat_f64x2_s_zero trunc_sat_f64x2_u_zero", types: "v:v"},
		{first: 0xfdfe, names: "f64x2.convert_low_i32x4_s convert_low_i32x4_u", types: "v:v"},
	}
}
