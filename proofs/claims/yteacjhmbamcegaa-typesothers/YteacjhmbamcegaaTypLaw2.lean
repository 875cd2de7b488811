/-
  The law TypesOthers, over what is asked of types (genlaw9.py wrote it).
-/
import Derived.Test.YteacjhmbamcegaaTypLaw1
set_option linter.unusedVariables false
set_option linter.unusedSimpArgs false
namespace Go.Proofs.Yteacjhmbamcegaa
open Go.RowKit Typ

set_option maxHeartbeats 8000000 in
theorem typesOthers_law (hF : TFuncOK) (hL : TLimOK) (hT : TTabOK) (hG : TGlobOK) (hR : TIsRefOK) (a : Option Addr) (len cap : Nat) (l : List Int) (p : Int) (w : World) (H : Row w a len cap l) :
    Calls Try.prog 6 #[.slice a len cap, .int .i64 p] w fun e w' => e = .returned (.bool true) ∧ Below w.heap.size w w' := by
  have C1 := hideT (fun V hV => hL a len cap l p V (H.later (w' := V) hV))
  have C2 := hideT (fun V hV => rLimits_calls a len cap l p V (H.later (w' := V) hV))
  have C3 := hideT (fun V hV => hT a len cap l p V (H.later (w' := V) hV))
  have C4 := hideT (fun V hV => rTable_calls a len cap l p V (H.later (w' := V) hV))
  have C5 := hideT (fun V hV => hG a len cap l p V (H.later (w' := V) hV))
  have C6 := hideT (fun V hV => rGlobal_calls a len cap l p V (H.later (w' := V) hV))
  have CW := hideT (fun V => works9_calls hF hR V)
  clear H hF hL hT hG hR
  unfold limR limV at C1 C2
  unfold tabR tabV at C3 C4
  unfold globR at C5 C6
  generalize limAt l p = R1 at *
  generalize tabAt l p = R2 at *
  generalize globAt l p = R3 at *
  obtain ⟨⟨n1, x1, b1⟩, nx1, e1⟩ := R1
  obtain ⟨⟨t2, n2, x2, b2⟩, nx2, e2⟩ := R2
  obtain ⟨⟨t3, b3⟩, nx3, e3⟩ := R3
  simp only at C1 C2 C3 C4 C5 C6
  have B : Hid (Below w.heap.size w w) := hideT (Below.refl _ _)
  have D := hideT (C1.out w B.out)
  clear C1
  go_enter Try.func6, Try.ntmps6
  go_wp2_with fail
  refine D.out.mono ?_
  rintro e w0 ⟨rfl, hb⟩
  obtain ⟨u0, hu⟩ : ∃ u, w0.alloc (.cells #[.int .u32 n1, .int .u32 x1, .bool b1] 33) = u := ⟨_, rfl⟩
  have BX : Below w.heap.size w u0 := by rw [← hu]; exact hb.alloc hb.size _
  have K0 : Hid (SBlk u0 w0.heap.size 33 #[.int .u32 n1, .int .u32 x1, .bool b1]) := hideT (by rw [← hu]; exact sblk_new _ _ _)
  replace B := hideT (B.out.trans (BX.mono B.out.size))
  have D := hideT (C2.out u0 B.out)
  have HU := hideT hu
  clear hb BX hu C2
  go_wp2_with fail
  rw [HU.out]
  refine D.out.mono ?_
  rintro e w1 ⟨rfl, hb⟩
  obtain ⟨u1, hu⟩ : ∃ u, w1.alloc (.cells #[.int .u32 n1, .int .u32 x1, .bool b1] 33) = u := ⟨_, rfl⟩
  have BX : Below u0.heap.size u0 u1 := by rw [← hu]; exact hb.alloc hb.size _
  replace K0 := hideT (show SBlk u1 _ _ _ from K0.out.later BX K0.out.lt)
  have K1 : Hid (SBlk u1 w1.heap.size 33 #[.int .u32 n1, .int .u32 x1, .bool b1]) := hideT (by rw [← hu]; exact sblk_new _ _ _)
  replace B := hideT (B.out.trans (BX.mono B.out.size))
  have D := hideT (C3.out u1 B.out)
  replace HU := hideT hu
  clear hb BX hu C3
  go_wp2_with fail
  rw [HU.out]
  refine D.out.mono ?_
  rintro e w2 ⟨rfl, hb⟩
  obtain ⟨u2, hu⟩ : ∃ u, w2.alloc (.cells #[.int .u8 t2, .int .u32 n2, .int .u32 x2, .bool b2] 35) = u := ⟨_, rfl⟩
  have BX : Below u1.heap.size u1 u2 := by rw [← hu]; exact hb.alloc hb.size _
  replace K0 := hideT (show SBlk u2 _ _ _ from K0.out.later BX K0.out.lt)
  replace K1 := hideT (show SBlk u2 _ _ _ from K1.out.later BX K1.out.lt)
  have K2 : Hid (SBlk u2 w2.heap.size 35 #[.int .u8 t2, .int .u32 n2, .int .u32 x2, .bool b2]) := hideT (by rw [← hu]; exact sblk_new _ _ _)
  replace B := hideT (B.out.trans (BX.mono B.out.size))
  have D := hideT (C4.out u2 B.out)
  replace HU := hideT hu
  clear hb BX hu C4
  go_wp2_with fail
  rw [HU.out]
  refine D.out.mono ?_
  rintro e w3 ⟨rfl, hb⟩
  obtain ⟨u3, hu⟩ : ∃ u, w3.alloc (.cells #[.int .u8 t2, .int .u32 n2, .int .u32 x2, .bool b2] 35) = u := ⟨_, rfl⟩
  have BX : Below u2.heap.size u2 u3 := by rw [← hu]; exact hb.alloc hb.size _
  replace K0 := hideT (show SBlk u3 _ _ _ from K0.out.later BX K0.out.lt)
  replace K1 := hideT (show SBlk u3 _ _ _ from K1.out.later BX K1.out.lt)
  replace K2 := hideT (show SBlk u3 _ _ _ from K2.out.later BX K2.out.lt)
  have K3 : Hid (SBlk u3 w3.heap.size 35 #[.int .u8 t2, .int .u32 n2, .int .u32 x2, .bool b2]) := hideT (by rw [← hu]; exact sblk_new _ _ _)
  replace B := hideT (B.out.trans (BX.mono B.out.size))
  have D := hideT (C5.out u3 B.out)
  replace HU := hideT hu
  clear hb BX hu C5
  go_wp2_with fail
  rw [HU.out]
  refine D.out.mono ?_
  rintro e w4 ⟨rfl, hb⟩
  obtain ⟨u4, hu⟩ : ∃ u, w4.alloc (.cells #[.int .u8 t3, .bool b3] 57) = u := ⟨_, rfl⟩
  have BX : Below u3.heap.size u3 u4 := by rw [← hu]; exact hb.alloc hb.size _
  replace K0 := hideT (show SBlk u4 _ _ _ from K0.out.later BX K0.out.lt)
  replace K1 := hideT (show SBlk u4 _ _ _ from K1.out.later BX K1.out.lt)
  replace K2 := hideT (show SBlk u4 _ _ _ from K2.out.later BX K2.out.lt)
  replace K3 := hideT (show SBlk u4 _ _ _ from K3.out.later BX K3.out.lt)
  have K4 : Hid (SBlk u4 w4.heap.size 57 #[.int .u8 t3, .bool b3]) := hideT (by rw [← hu]; exact sblk_new _ _ _)
  replace B := hideT (B.out.trans (BX.mono B.out.size))
  have D := hideT (C6.out u4 B.out)
  replace HU := hideT hu
  clear hb BX hu C6
  go_wp2_with fail
  rw [HU.out]
  refine D.out.mono ?_
  rintro e w5 ⟨rfl, hb⟩
  obtain ⟨u5, hu⟩ : ∃ u, w5.alloc (.cells #[.int .u8 t3, .bool b3] 57) = u := ⟨_, rfl⟩
  have BX : Below u4.heap.size u4 u5 := by rw [← hu]; exact hb.alloc hb.size _
  replace K0 := hideT (show SBlk u5 _ _ _ from K0.out.later BX K0.out.lt)
  replace K1 := hideT (show SBlk u5 _ _ _ from K1.out.later BX K1.out.lt)
  replace K2 := hideT (show SBlk u5 _ _ _ from K2.out.later BX K2.out.lt)
  replace K3 := hideT (show SBlk u5 _ _ _ from K3.out.later BX K3.out.lt)
  replace K4 := hideT (show SBlk u5 _ _ _ from K4.out.later BX K4.out.lt)
  have K5 : Hid (SBlk u5 w5.heap.size 57 #[.int .u8 t3, .bool b3]) := hideT (by rw [← hu]; exact sblk_new _ _ _)
  replace B := hideT (B.out.trans (BX.mono B.out.size))
  have k0_0 := K0.out.cell (k := 0) rfl
  have k0_1 := K0.out.cell (k := 1) rfl
  have k0_2 := K0.out.cell (k := 2) rfl
  have k1_0 := K1.out.cell (k := 0) rfl
  have k1_1 := K1.out.cell (k := 1) rfl
  have k1_2 := K1.out.cell (k := 2) rfl
  have k2_0 := K2.out.cell (k := 0) rfl
  have k2_1 := K2.out.cell (k := 1) rfl
  have k2_2 := K2.out.cell (k := 2) rfl
  have k2_3 := K2.out.cell (k := 3) rfl
  have k3_0 := K3.out.cell (k := 0) rfl
  have k3_1 := K3.out.cell (k := 1) rfl
  have k3_2 := K3.out.cell (k := 2) rfl
  have k3_3 := K3.out.cell (k := 3) rfl
  have k4_0 := K4.out.cell (k := 0) rfl
  have k4_1 := K4.out.cell (k := 1) rfl
  have k5_0 := K5.out.cell (k := 0) rfl
  have k5_1 := K5.out.cell (k := 1) rfl
  rw [← hu] at k0_0 k0_1 k0_2 k1_0 k1_1 k1_2 k2_0 k2_1 k2_2 k2_3 k3_0 k3_1 k3_2 k3_3 k4_0 k4_1 k5_0 k5_1
  replace HU := hideT hu
  clear hb BX hu
  go_wp2_with fail
  rw [HU.out]
  refine (CW.out _).mono ?_
  rintro e wz ⟨rfl, hb⟩
  have BZ := hideT (B.out.trans (hb.mono B.out.size))
  clear hb
  go_wp2
  go_ret
  exact ⟨rfl, BZ.out⟩
end Go.Proofs.Yteacjhmbamcegaa
