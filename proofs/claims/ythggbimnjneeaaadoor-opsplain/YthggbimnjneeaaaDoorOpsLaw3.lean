/-
  OpsPlain (genopsplain.py wrote it).
-/
import Derived.Test.YthggbimnjneeaaaDoorOpsLaw1
set_option linter.unusedVariables false
set_option maxRecDepth 100000
set_option linter.unusedSimpArgs false
namespace Go.Proofs.YthggbimnjneeaaaDoor
open Go.RowKit Opp

def plainB (r : InfoD) : Bool :=
  if r.imm = 20 ∨ r.imm = 21 ∨ r.imm = 22 ∨ r.imm = 23 ∨ r.imm = 24 then r.plain && decide (r.to.length = 1) && decide (r.bits = 0) && decide (r.fr.length = 0)
  else if r.imm = 16 ∨ r.imm = 17 then !r.plain && decide (r.fr.length ≠ 0) && decide (r.fr[0]?.getD 0 = 127) && decide (r.to.length ≤ 1) && decide (r.bits = 8 ∨ r.bits = 16 ∨ r.bits = 32 ∨ r.bits = 64 ∨ r.bits = 128)
  else if r.plain then decide (r.imm = 0 ∨ r.imm = 18 ∨ r.imm = 19) && decide (r.to.length = 1) && decide (r.bits = 0)
  else decide (r.bits = 0)
theorem plain_all : (rowsD.all plainB) = true := by kernel_rfl

/-- What a call of Of gives, its first type told. -/
def OfF (w : World) (o op : Int) (nm : ByteArray) (imm : Int) (n1 n2 : Nat) (bits er : Int) (pl : Bool) : Prop :=
  ∀ V : World, Below w.heap.size w V → Calls Tryd.prog 9 #[.int .u16 o] V fun e w' => ∃ a1 c1 a2 c2, e = .returned (.tuple #[.agg #[.int .u16 op, .string nm, .int .u8 imm, .slice a1 n1 c1, .slice a2 n2 c2, .int .i64 bits, .bool pl], .int .i64 er]) ∧
    (0 < n1 → ∃ g x, a1 = some ⟨g, 0, none⟩ ∧ w'.cell? ⟨g, 0, none⟩ = some (.int .u8 x) ∧ (imm = 16 ∨ imm = 17 → x = 127)) ∧ Below V.heap.size V w'

set_option maxHeartbeats 8000000 in
theorem plainA_20 (hO : TOfOK) (o op : Int) (nm : ByteArray)  (w : World) (hT : STab w)  (CA : Hid (OfF w o op nm 20 0 1 0 0 true)) :
    Calls Tryd.prog 7 #[.int .u16 o] w fun e w' => e = .returned (.bool true) ∧ Below w.heap.size w w' := by
  have CW := hideT (fun V (hV : Below w.heap.size w V) => works10_calls hO V (hT.later hV))
  go_enter Tryd.func7, Tryd.ntmps7
  go_wp2_with fail
  refine (CA.out _ (by first | exact Below.refl _ _ | exact BAA.out | exact BAB.out | exact BAC.out | exact BA.out | exact B1.out | exact B2.out | exact B3.out | exact HB2.out | exact HB3.out | exact HB.out | exact BL.out | exact BM.out | exact BW.out)).mono ?_
  rintro e w1 ⟨a1, c1, a2, c2, rfl, hfst, hb1⟩
  obtain ⟨wa, hwa⟩ : ∃ x, w1.alloc (.cells #[.int .u16 op, .string nm, .int .u8 20, .slice a1 0 c1, .slice a2 1 c2, .int .i64 0, .bool true] 27) = x := ⟨_, rfl⟩
  have KA := hideT (show wa.heap[w1.heap.size]? = some (.cells #[.int .u16 op, .string nm, .int .u8 20, .slice a1 0 c1, .slice a2 1 c2, .int .i64 0, .bool true] 27 (0, 0)) by rw [← hwa]; exact heap_alloc_new w1 _)
  have BA := hideT (show Below w.heap.size w wa by rw [← hwa]; exact hb1.alloc hb1.size _)
  clear hfst
  have HWA := hideT hwa
  clear hwa hb1 CA
  dsimp only
  go_wp2_with fail
  rw [HWA.out]
  refine (CW.out _ (by first | exact Below.refl _ _ | exact BAA.out | exact BAB.out | exact BAC.out | exact BA.out | exact B1.out | exact B2.out | exact B3.out | exact HB2.out | exact HB3.out | exact HB.out | exact BL.out | exact BM.out | exact BW.out)).mono ?_
  rintro e w4 ⟨rfl, hb4⟩
  have B4 := hideT (BA.out.trans (hb4.mono BA.out.size))
  clear hb4
  go_wp2
  go_ret
  exact ⟨rfl, B4.out⟩

set_option maxHeartbeats 8000000 in
theorem plainA_21 (hO : TOfOK) (o op : Int) (nm : ByteArray)  (w : World) (hT : STab w)  (CA : Hid (OfF w o op nm 21 0 1 0 0 true)) :
    Calls Tryd.prog 7 #[.int .u16 o] w fun e w' => e = .returned (.bool true) ∧ Below w.heap.size w w' := by
  have CW := hideT (fun V (hV : Below w.heap.size w V) => works10_calls hO V (hT.later hV))
  go_enter Tryd.func7, Tryd.ntmps7
  go_wp2_with fail
  refine (CA.out _ (by first | exact Below.refl _ _ | exact BAA.out | exact BAB.out | exact BAC.out | exact BA.out | exact B1.out | exact B2.out | exact B3.out | exact HB2.out | exact HB3.out | exact HB.out | exact BL.out | exact BM.out | exact BW.out)).mono ?_
  rintro e w1 ⟨a1, c1, a2, c2, rfl, hfst, hb1⟩
  obtain ⟨wa, hwa⟩ : ∃ x, w1.alloc (.cells #[.int .u16 op, .string nm, .int .u8 21, .slice a1 0 c1, .slice a2 1 c2, .int .i64 0, .bool true] 27) = x := ⟨_, rfl⟩
  have KA := hideT (show wa.heap[w1.heap.size]? = some (.cells #[.int .u16 op, .string nm, .int .u8 21, .slice a1 0 c1, .slice a2 1 c2, .int .i64 0, .bool true] 27 (0, 0)) by rw [← hwa]; exact heap_alloc_new w1 _)
  have BA := hideT (show Below w.heap.size w wa by rw [← hwa]; exact hb1.alloc hb1.size _)
  clear hfst
  have HWA := hideT hwa
  clear hwa hb1 CA
  dsimp only
  go_wp2_with fail
  rw [HWA.out]
  refine (CW.out _ (by first | exact Below.refl _ _ | exact BAA.out | exact BAB.out | exact BAC.out | exact BA.out | exact B1.out | exact B2.out | exact B3.out | exact HB2.out | exact HB3.out | exact HB.out | exact BL.out | exact BM.out | exact BW.out)).mono ?_
  rintro e w4 ⟨rfl, hb4⟩
  have B4 := hideT (BA.out.trans (hb4.mono BA.out.size))
  clear hb4
  go_wp2
  go_ret
  exact ⟨rfl, B4.out⟩

set_option maxHeartbeats 8000000 in
theorem plainA_22 (hO : TOfOK) (o op : Int) (nm : ByteArray)  (w : World) (hT : STab w)  (CA : Hid (OfF w o op nm 22 0 1 0 0 true)) :
    Calls Tryd.prog 7 #[.int .u16 o] w fun e w' => e = .returned (.bool true) ∧ Below w.heap.size w w' := by
  have CW := hideT (fun V (hV : Below w.heap.size w V) => works10_calls hO V (hT.later hV))
  go_enter Tryd.func7, Tryd.ntmps7
  go_wp2_with fail
  refine (CA.out _ (by first | exact Below.refl _ _ | exact BAA.out | exact BAB.out | exact BAC.out | exact BA.out | exact B1.out | exact B2.out | exact B3.out | exact HB2.out | exact HB3.out | exact HB.out | exact BL.out | exact BM.out | exact BW.out)).mono ?_
  rintro e w1 ⟨a1, c1, a2, c2, rfl, hfst, hb1⟩
  obtain ⟨wa, hwa⟩ : ∃ x, w1.alloc (.cells #[.int .u16 op, .string nm, .int .u8 22, .slice a1 0 c1, .slice a2 1 c2, .int .i64 0, .bool true] 27) = x := ⟨_, rfl⟩
  have KA := hideT (show wa.heap[w1.heap.size]? = some (.cells #[.int .u16 op, .string nm, .int .u8 22, .slice a1 0 c1, .slice a2 1 c2, .int .i64 0, .bool true] 27 (0, 0)) by rw [← hwa]; exact heap_alloc_new w1 _)
  have BA := hideT (show Below w.heap.size w wa by rw [← hwa]; exact hb1.alloc hb1.size _)
  clear hfst
  have HWA := hideT hwa
  clear hwa hb1 CA
  dsimp only
  go_wp2_with fail
  rw [HWA.out]
  refine (CW.out _ (by first | exact Below.refl _ _ | exact BAA.out | exact BAB.out | exact BAC.out | exact BA.out | exact B1.out | exact B2.out | exact B3.out | exact HB2.out | exact HB3.out | exact HB.out | exact BL.out | exact BM.out | exact BW.out)).mono ?_
  rintro e w4 ⟨rfl, hb4⟩
  have B4 := hideT (BA.out.trans (hb4.mono BA.out.size))
  clear hb4
  go_wp2
  go_ret
  exact ⟨rfl, B4.out⟩

set_option maxHeartbeats 8000000 in
theorem plainA_23 (hO : TOfOK) (o op : Int) (nm : ByteArray)  (w : World) (hT : STab w)  (CA : Hid (OfF w o op nm 23 0 1 0 0 true)) :
    Calls Tryd.prog 7 #[.int .u16 o] w fun e w' => e = .returned (.bool true) ∧ Below w.heap.size w w' := by
  have CW := hideT (fun V (hV : Below w.heap.size w V) => works10_calls hO V (hT.later hV))
  go_enter Tryd.func7, Tryd.ntmps7
  go_wp2_with fail
  refine (CA.out _ (by first | exact Below.refl _ _ | exact BAA.out | exact BAB.out | exact BAC.out | exact BA.out | exact B1.out | exact B2.out | exact B3.out | exact HB2.out | exact HB3.out | exact HB.out | exact BL.out | exact BM.out | exact BW.out)).mono ?_
  rintro e w1 ⟨a1, c1, a2, c2, rfl, hfst, hb1⟩
  obtain ⟨wa, hwa⟩ : ∃ x, w1.alloc (.cells #[.int .u16 op, .string nm, .int .u8 23, .slice a1 0 c1, .slice a2 1 c2, .int .i64 0, .bool true] 27) = x := ⟨_, rfl⟩
  have KA := hideT (show wa.heap[w1.heap.size]? = some (.cells #[.int .u16 op, .string nm, .int .u8 23, .slice a1 0 c1, .slice a2 1 c2, .int .i64 0, .bool true] 27 (0, 0)) by rw [← hwa]; exact heap_alloc_new w1 _)
  have BA := hideT (show Below w.heap.size w wa by rw [← hwa]; exact hb1.alloc hb1.size _)
  clear hfst
  have HWA := hideT hwa
  clear hwa hb1 CA
  dsimp only
  go_wp2_with fail
  rw [HWA.out]
  refine (CW.out _ (by first | exact Below.refl _ _ | exact BAA.out | exact BAB.out | exact BAC.out | exact BA.out | exact B1.out | exact B2.out | exact B3.out | exact HB2.out | exact HB3.out | exact HB.out | exact BL.out | exact BM.out | exact BW.out)).mono ?_
  rintro e w4 ⟨rfl, hb4⟩
  have B4 := hideT (BA.out.trans (hb4.mono BA.out.size))
  clear hb4
  go_wp2
  go_ret
  exact ⟨rfl, B4.out⟩

set_option maxHeartbeats 8000000 in
theorem plainA_24 (hO : TOfOK) (o op : Int) (nm : ByteArray)  (w : World) (hT : STab w)  (CA : Hid (OfF w o op nm 24 0 1 0 0 true)) :
    Calls Tryd.prog 7 #[.int .u16 o] w fun e w' => e = .returned (.bool true) ∧ Below w.heap.size w w' := by
  have CW := hideT (fun V (hV : Below w.heap.size w V) => works10_calls hO V (hT.later hV))
  go_enter Tryd.func7, Tryd.ntmps7
  go_wp2_with fail
  refine (CA.out _ (by first | exact Below.refl _ _ | exact BAA.out | exact BAB.out | exact BAC.out | exact BA.out | exact B1.out | exact B2.out | exact B3.out | exact HB2.out | exact HB3.out | exact HB.out | exact BL.out | exact BM.out | exact BW.out)).mono ?_
  rintro e w1 ⟨a1, c1, a2, c2, rfl, hfst, hb1⟩
  obtain ⟨wa, hwa⟩ : ∃ x, w1.alloc (.cells #[.int .u16 op, .string nm, .int .u8 24, .slice a1 0 c1, .slice a2 1 c2, .int .i64 0, .bool true] 27) = x := ⟨_, rfl⟩
  have KA := hideT (show wa.heap[w1.heap.size]? = some (.cells #[.int .u16 op, .string nm, .int .u8 24, .slice a1 0 c1, .slice a2 1 c2, .int .i64 0, .bool true] 27 (0, 0)) by rw [← hwa]; exact heap_alloc_new w1 _)
  have BA := hideT (show Below w.heap.size w wa by rw [← hwa]; exact hb1.alloc hb1.size _)
  clear hfst
  have HWA := hideT hwa
  clear hwa hb1 CA
  dsimp only
  go_wp2_with fail
  rw [HWA.out]
  refine (CW.out _ (by first | exact Below.refl _ _ | exact BAA.out | exact BAB.out | exact BAC.out | exact BA.out | exact B1.out | exact B2.out | exact B3.out | exact HB2.out | exact HB3.out | exact HB.out | exact BL.out | exact BM.out | exact BW.out)).mono ?_
  rintro e w4 ⟨rfl, hb4⟩
  have B4 := hideT (BA.out.trans (hb4.mono BA.out.size))
  clear hb4
  go_wp2
  go_ret
  exact ⟨rfl, B4.out⟩

set_option maxHeartbeats 8000000 in
theorem plainP_16_8 (hO : TOfOK) (o op : Int) (nm : ByteArray) (n1 n2 : Nat) (w : World) (hT : STab w) (h1 : n1 ≠ 0) (h2 : n2 ≤ 1) (CA : Hid (OfF w o op nm 16 n1 n2 8 0 false)) :
    Calls Tryd.prog 7 #[.int .u16 o] w fun e w' => e = .returned (.bool true) ∧ Below w.heap.size w w' := by
  have CW := hideT (fun V (hV : Below w.heap.size w V) => works10_calls hO V (hT.later hV))
  have t1 : ((n1 : Int) == 0) = false := by simp; omega
  have t2 : decide ((1 : Int) < (n2 : Int)) = false := by simp; omega
  have t3 : decide (1 < n2) = false := by simp; omega
  have t4 : (0 : Int) < (n1 : Int) := by omega
  go_enter Tryd.func7, Tryd.ntmps7
  go_wp2_with fail
  refine (CA.out _ (by first | exact Below.refl _ _ | exact BAA.out | exact BAB.out | exact BAC.out | exact BA.out | exact B1.out | exact B2.out | exact B3.out | exact HB2.out | exact HB3.out | exact HB.out | exact BL.out | exact BM.out | exact BW.out)).mono ?_
  rintro e w1 ⟨a1, c1, a2, c2, rfl, hfst, hb1⟩
  obtain ⟨wa, hwa⟩ : ∃ x, w1.alloc (.cells #[.int .u16 op, .string nm, .int .u8 16, .slice a1 n1 c1, .slice a2 n2 c2, .int .i64 8, .bool false] 27) = x := ⟨_, rfl⟩
  have KA := hideT (show wa.heap[w1.heap.size]? = some (.cells #[.int .u16 op, .string nm, .int .u8 16, .slice a1 n1 c1, .slice a2 n2 c2, .int .i64 8, .bool false] 27 (0, 0)) by rw [← hwa]; exact heap_alloc_new w1 _)
  have BA := hideT (show Below w.heap.size w wa by rw [← hwa]; exact hb1.alloc hb1.size _)
  obtain ⟨g, x, rfl, hcx, hx⟩ := hfst (by omega)
  obtain rfl := hx (by first | exact .inl rfl | exact .inr rfl)
  have zx : wa.cell? ⟨g, 0, none⟩ = some (.int .u8 127) := by rw [← hwa]; exact cell_laterF ((Below.refl _ _).alloc (Nat.le_refl _) _) hcx
  rw [← hwa] at zx
  clear hcx hx
  have HWA := hideT hwa
  clear hwa hb1 CA
  dsimp only
  go_wp2_with fail
  rw [HWA.out]
  refine (CW.out _ (by first | exact Below.refl _ _ | exact BAA.out | exact BAB.out | exact BAC.out | exact BA.out | exact B1.out | exact B2.out | exact B3.out | exact HB2.out | exact HB3.out | exact HB.out | exact BL.out | exact BM.out | exact BW.out)).mono ?_
  rintro e w4 ⟨rfl, hb4⟩
  have B4 := hideT (BA.out.trans (hb4.mono BA.out.size))
  clear hb4
  go_wp2
  go_ret
  exact ⟨rfl, B4.out⟩

set_option maxHeartbeats 8000000 in
theorem plainP_16_16 (hO : TOfOK) (o op : Int) (nm : ByteArray) (n1 n2 : Nat) (w : World) (hT : STab w) (h1 : n1 ≠ 0) (h2 : n2 ≤ 1) (CA : Hid (OfF w o op nm 16 n1 n2 16 0 false)) :
    Calls Tryd.prog 7 #[.int .u16 o] w fun e w' => e = .returned (.bool true) ∧ Below w.heap.size w w' := by
  have CW := hideT (fun V (hV : Below w.heap.size w V) => works10_calls hO V (hT.later hV))
  have t1 : ((n1 : Int) == 0) = false := by simp; omega
  have t2 : decide ((1 : Int) < (n2 : Int)) = false := by simp; omega
  have t3 : decide (1 < n2) = false := by simp; omega
  have t4 : (0 : Int) < (n1 : Int) := by omega
  go_enter Tryd.func7, Tryd.ntmps7
  go_wp2_with fail
  refine (CA.out _ (by first | exact Below.refl _ _ | exact BAA.out | exact BAB.out | exact BAC.out | exact BA.out | exact B1.out | exact B2.out | exact B3.out | exact HB2.out | exact HB3.out | exact HB.out | exact BL.out | exact BM.out | exact BW.out)).mono ?_
  rintro e w1 ⟨a1, c1, a2, c2, rfl, hfst, hb1⟩
  obtain ⟨wa, hwa⟩ : ∃ x, w1.alloc (.cells #[.int .u16 op, .string nm, .int .u8 16, .slice a1 n1 c1, .slice a2 n2 c2, .int .i64 16, .bool false] 27) = x := ⟨_, rfl⟩
  have KA := hideT (show wa.heap[w1.heap.size]? = some (.cells #[.int .u16 op, .string nm, .int .u8 16, .slice a1 n1 c1, .slice a2 n2 c2, .int .i64 16, .bool false] 27 (0, 0)) by rw [← hwa]; exact heap_alloc_new w1 _)
  have BA := hideT (show Below w.heap.size w wa by rw [← hwa]; exact hb1.alloc hb1.size _)
  obtain ⟨g, x, rfl, hcx, hx⟩ := hfst (by omega)
  obtain rfl := hx (by first | exact .inl rfl | exact .inr rfl)
  have zx : wa.cell? ⟨g, 0, none⟩ = some (.int .u8 127) := by rw [← hwa]; exact cell_laterF ((Below.refl _ _).alloc (Nat.le_refl _) _) hcx
  rw [← hwa] at zx
  clear hcx hx
  have HWA := hideT hwa
  clear hwa hb1 CA
  dsimp only
  go_wp2_with fail
  rw [HWA.out]
  refine (CW.out _ (by first | exact Below.refl _ _ | exact BAA.out | exact BAB.out | exact BAC.out | exact BA.out | exact B1.out | exact B2.out | exact B3.out | exact HB2.out | exact HB3.out | exact HB.out | exact BL.out | exact BM.out | exact BW.out)).mono ?_
  rintro e w4 ⟨rfl, hb4⟩
  have B4 := hideT (BA.out.trans (hb4.mono BA.out.size))
  clear hb4
  go_wp2
  go_ret
  exact ⟨rfl, B4.out⟩

set_option maxHeartbeats 8000000 in
theorem plainP_16_32 (hO : TOfOK) (o op : Int) (nm : ByteArray) (n1 n2 : Nat) (w : World) (hT : STab w) (h1 : n1 ≠ 0) (h2 : n2 ≤ 1) (CA : Hid (OfF w o op nm 16 n1 n2 32 0 false)) :
    Calls Tryd.prog 7 #[.int .u16 o] w fun e w' => e = .returned (.bool true) ∧ Below w.heap.size w w' := by
  have CW := hideT (fun V (hV : Below w.heap.size w V) => works10_calls hO V (hT.later hV))
  have t1 : ((n1 : Int) == 0) = false := by simp; omega
  have t2 : decide ((1 : Int) < (n2 : Int)) = false := by simp; omega
  have t3 : decide (1 < n2) = false := by simp; omega
  have t4 : (0 : Int) < (n1 : Int) := by omega
  go_enter Tryd.func7, Tryd.ntmps7
  go_wp2_with fail
  refine (CA.out _ (by first | exact Below.refl _ _ | exact BAA.out | exact BAB.out | exact BAC.out | exact BA.out | exact B1.out | exact B2.out | exact B3.out | exact HB2.out | exact HB3.out | exact HB.out | exact BL.out | exact BM.out | exact BW.out)).mono ?_
  rintro e w1 ⟨a1, c1, a2, c2, rfl, hfst, hb1⟩
  obtain ⟨wa, hwa⟩ : ∃ x, w1.alloc (.cells #[.int .u16 op, .string nm, .int .u8 16, .slice a1 n1 c1, .slice a2 n2 c2, .int .i64 32, .bool false] 27) = x := ⟨_, rfl⟩
  have KA := hideT (show wa.heap[w1.heap.size]? = some (.cells #[.int .u16 op, .string nm, .int .u8 16, .slice a1 n1 c1, .slice a2 n2 c2, .int .i64 32, .bool false] 27 (0, 0)) by rw [← hwa]; exact heap_alloc_new w1 _)
  have BA := hideT (show Below w.heap.size w wa by rw [← hwa]; exact hb1.alloc hb1.size _)
  obtain ⟨g, x, rfl, hcx, hx⟩ := hfst (by omega)
  obtain rfl := hx (by first | exact .inl rfl | exact .inr rfl)
  have zx : wa.cell? ⟨g, 0, none⟩ = some (.int .u8 127) := by rw [← hwa]; exact cell_laterF ((Below.refl _ _).alloc (Nat.le_refl _) _) hcx
  rw [← hwa] at zx
  clear hcx hx
  have HWA := hideT hwa
  clear hwa hb1 CA
  dsimp only
  go_wp2_with fail
  rw [HWA.out]
  refine (CW.out _ (by first | exact Below.refl _ _ | exact BAA.out | exact BAB.out | exact BAC.out | exact BA.out | exact B1.out | exact B2.out | exact B3.out | exact HB2.out | exact HB3.out | exact HB.out | exact BL.out | exact BM.out | exact BW.out)).mono ?_
  rintro e w4 ⟨rfl, hb4⟩
  have B4 := hideT (BA.out.trans (hb4.mono BA.out.size))
  clear hb4
  go_wp2
  go_ret
  exact ⟨rfl, B4.out⟩

set_option maxHeartbeats 8000000 in
theorem plainP_16_64 (hO : TOfOK) (o op : Int) (nm : ByteArray) (n1 n2 : Nat) (w : World) (hT : STab w) (h1 : n1 ≠ 0) (h2 : n2 ≤ 1) (CA : Hid (OfF w o op nm 16 n1 n2 64 0 false)) :
    Calls Tryd.prog 7 #[.int .u16 o] w fun e w' => e = .returned (.bool true) ∧ Below w.heap.size w w' := by
  have CW := hideT (fun V (hV : Below w.heap.size w V) => works10_calls hO V (hT.later hV))
  have t1 : ((n1 : Int) == 0) = false := by simp; omega
  have t2 : decide ((1 : Int) < (n2 : Int)) = false := by simp; omega
  have t3 : decide (1 < n2) = false := by simp; omega
  have t4 : (0 : Int) < (n1 : Int) := by omega
  go_enter Tryd.func7, Tryd.ntmps7
  go_wp2_with fail
  refine (CA.out _ (by first | exact Below.refl _ _ | exact BAA.out | exact BAB.out | exact BAC.out | exact BA.out | exact B1.out | exact B2.out | exact B3.out | exact HB2.out | exact HB3.out | exact HB.out | exact BL.out | exact BM.out | exact BW.out)).mono ?_
  rintro e w1 ⟨a1, c1, a2, c2, rfl, hfst, hb1⟩
  obtain ⟨wa, hwa⟩ : ∃ x, w1.alloc (.cells #[.int .u16 op, .string nm, .int .u8 16, .slice a1 n1 c1, .slice a2 n2 c2, .int .i64 64, .bool false] 27) = x := ⟨_, rfl⟩
  have KA := hideT (show wa.heap[w1.heap.size]? = some (.cells #[.int .u16 op, .string nm, .int .u8 16, .slice a1 n1 c1, .slice a2 n2 c2, .int .i64 64, .bool false] 27 (0, 0)) by rw [← hwa]; exact heap_alloc_new w1 _)
  have BA := hideT (show Below w.heap.size w wa by rw [← hwa]; exact hb1.alloc hb1.size _)
  obtain ⟨g, x, rfl, hcx, hx⟩ := hfst (by omega)
  obtain rfl := hx (by first | exact .inl rfl | exact .inr rfl)
  have zx : wa.cell? ⟨g, 0, none⟩ = some (.int .u8 127) := by rw [← hwa]; exact cell_laterF ((Below.refl _ _).alloc (Nat.le_refl _) _) hcx
  rw [← hwa] at zx
  clear hcx hx
  have HWA := hideT hwa
  clear hwa hb1 CA
  dsimp only
  go_wp2_with fail
  rw [HWA.out]
  refine (CW.out _ (by first | exact Below.refl _ _ | exact BAA.out | exact BAB.out | exact BAC.out | exact BA.out | exact B1.out | exact B2.out | exact B3.out | exact HB2.out | exact HB3.out | exact HB.out | exact BL.out | exact BM.out | exact BW.out)).mono ?_
  rintro e w4 ⟨rfl, hb4⟩
  have B4 := hideT (BA.out.trans (hb4.mono BA.out.size))
  clear hb4
  go_wp2
  go_ret
  exact ⟨rfl, B4.out⟩

set_option maxHeartbeats 8000000 in
theorem plainP_16_128 (hO : TOfOK) (o op : Int) (nm : ByteArray) (n1 n2 : Nat) (w : World) (hT : STab w) (h1 : n1 ≠ 0) (h2 : n2 ≤ 1) (CA : Hid (OfF w o op nm 16 n1 n2 128 0 false)) :
    Calls Tryd.prog 7 #[.int .u16 o] w fun e w' => e = .returned (.bool true) ∧ Below w.heap.size w w' := by
  have CW := hideT (fun V (hV : Below w.heap.size w V) => works10_calls hO V (hT.later hV))
  have t1 : ((n1 : Int) == 0) = false := by simp; omega
  have t2 : decide ((1 : Int) < (n2 : Int)) = false := by simp; omega
  have t3 : decide (1 < n2) = false := by simp; omega
  have t4 : (0 : Int) < (n1 : Int) := by omega
  go_enter Tryd.func7, Tryd.ntmps7
  go_wp2_with fail
  refine (CA.out _ (by first | exact Below.refl _ _ | exact BAA.out | exact BAB.out | exact BAC.out | exact BA.out | exact B1.out | exact B2.out | exact B3.out | exact HB2.out | exact HB3.out | exact HB.out | exact BL.out | exact BM.out | exact BW.out)).mono ?_
  rintro e w1 ⟨a1, c1, a2, c2, rfl, hfst, hb1⟩
  obtain ⟨wa, hwa⟩ : ∃ x, w1.alloc (.cells #[.int .u16 op, .string nm, .int .u8 16, .slice a1 n1 c1, .slice a2 n2 c2, .int .i64 128, .bool false] 27) = x := ⟨_, rfl⟩
  have KA := hideT (show wa.heap[w1.heap.size]? = some (.cells #[.int .u16 op, .string nm, .int .u8 16, .slice a1 n1 c1, .slice a2 n2 c2, .int .i64 128, .bool false] 27 (0, 0)) by rw [← hwa]; exact heap_alloc_new w1 _)
  have BA := hideT (show Below w.heap.size w wa by rw [← hwa]; exact hb1.alloc hb1.size _)
  obtain ⟨g, x, rfl, hcx, hx⟩ := hfst (by omega)
  obtain rfl := hx (by first | exact .inl rfl | exact .inr rfl)
  have zx : wa.cell? ⟨g, 0, none⟩ = some (.int .u8 127) := by rw [← hwa]; exact cell_laterF ((Below.refl _ _).alloc (Nat.le_refl _) _) hcx
  rw [← hwa] at zx
  clear hcx hx
  have HWA := hideT hwa
  clear hwa hb1 CA
  dsimp only
  go_wp2_with fail
  rw [HWA.out]
  refine (CW.out _ (by first | exact Below.refl _ _ | exact BAA.out | exact BAB.out | exact BAC.out | exact BA.out | exact B1.out | exact B2.out | exact B3.out | exact HB2.out | exact HB3.out | exact HB.out | exact BL.out | exact BM.out | exact BW.out)).mono ?_
  rintro e w4 ⟨rfl, hb4⟩
  have B4 := hideT (BA.out.trans (hb4.mono BA.out.size))
  clear hb4
  go_wp2
  go_ret
  exact ⟨rfl, B4.out⟩

set_option maxHeartbeats 8000000 in
theorem plainP_17_8 (hO : TOfOK) (o op : Int) (nm : ByteArray) (n1 n2 : Nat) (w : World) (hT : STab w) (h1 : n1 ≠ 0) (h2 : n2 ≤ 1) (CA : Hid (OfF w o op nm 17 n1 n2 8 0 false)) :
    Calls Tryd.prog 7 #[.int .u16 o] w fun e w' => e = .returned (.bool true) ∧ Below w.heap.size w w' := by
  have CW := hideT (fun V (hV : Below w.heap.size w V) => works10_calls hO V (hT.later hV))
  have t1 : ((n1 : Int) == 0) = false := by simp; omega
  have t2 : decide ((1 : Int) < (n2 : Int)) = false := by simp; omega
  have t3 : decide (1 < n2) = false := by simp; omega
  have t4 : (0 : Int) < (n1 : Int) := by omega
  go_enter Tryd.func7, Tryd.ntmps7
  go_wp2_with fail
  refine (CA.out _ (by first | exact Below.refl _ _ | exact BAA.out | exact BAB.out | exact BAC.out | exact BA.out | exact B1.out | exact B2.out | exact B3.out | exact HB2.out | exact HB3.out | exact HB.out | exact BL.out | exact BM.out | exact BW.out)).mono ?_
  rintro e w1 ⟨a1, c1, a2, c2, rfl, hfst, hb1⟩
  obtain ⟨wa, hwa⟩ : ∃ x, w1.alloc (.cells #[.int .u16 op, .string nm, .int .u8 17, .slice a1 n1 c1, .slice a2 n2 c2, .int .i64 8, .bool false] 27) = x := ⟨_, rfl⟩
  have KA := hideT (show wa.heap[w1.heap.size]? = some (.cells #[.int .u16 op, .string nm, .int .u8 17, .slice a1 n1 c1, .slice a2 n2 c2, .int .i64 8, .bool false] 27 (0, 0)) by rw [← hwa]; exact heap_alloc_new w1 _)
  have BA := hideT (show Below w.heap.size w wa by rw [← hwa]; exact hb1.alloc hb1.size _)
  obtain ⟨g, x, rfl, hcx, hx⟩ := hfst (by omega)
  obtain rfl := hx (by first | exact .inl rfl | exact .inr rfl)
  have zx : wa.cell? ⟨g, 0, none⟩ = some (.int .u8 127) := by rw [← hwa]; exact cell_laterF ((Below.refl _ _).alloc (Nat.le_refl _) _) hcx
  rw [← hwa] at zx
  clear hcx hx
  have HWA := hideT hwa
  clear hwa hb1 CA
  dsimp only
  go_wp2_with fail
  rw [HWA.out]
  refine (CW.out _ (by first | exact Below.refl _ _ | exact BAA.out | exact BAB.out | exact BAC.out | exact BA.out | exact B1.out | exact B2.out | exact B3.out | exact HB2.out | exact HB3.out | exact HB.out | exact BL.out | exact BM.out | exact BW.out)).mono ?_
  rintro e w4 ⟨rfl, hb4⟩
  have B4 := hideT (BA.out.trans (hb4.mono BA.out.size))
  clear hb4
  go_wp2
  go_ret
  exact ⟨rfl, B4.out⟩

set_option maxHeartbeats 8000000 in
theorem plainP_17_16 (hO : TOfOK) (o op : Int) (nm : ByteArray) (n1 n2 : Nat) (w : World) (hT : STab w) (h1 : n1 ≠ 0) (h2 : n2 ≤ 1) (CA : Hid (OfF w o op nm 17 n1 n2 16 0 false)) :
    Calls Tryd.prog 7 #[.int .u16 o] w fun e w' => e = .returned (.bool true) ∧ Below w.heap.size w w' := by
  have CW := hideT (fun V (hV : Below w.heap.size w V) => works10_calls hO V (hT.later hV))
  have t1 : ((n1 : Int) == 0) = false := by simp; omega
  have t2 : decide ((1 : Int) < (n2 : Int)) = false := by simp; omega
  have t3 : decide (1 < n2) = false := by simp; omega
  have t4 : (0 : Int) < (n1 : Int) := by omega
  go_enter Tryd.func7, Tryd.ntmps7
  go_wp2_with fail
  refine (CA.out _ (by first | exact Below.refl _ _ | exact BAA.out | exact BAB.out | exact BAC.out | exact BA.out | exact B1.out | exact B2.out | exact B3.out | exact HB2.out | exact HB3.out | exact HB.out | exact BL.out | exact BM.out | exact BW.out)).mono ?_
  rintro e w1 ⟨a1, c1, a2, c2, rfl, hfst, hb1⟩
  obtain ⟨wa, hwa⟩ : ∃ x, w1.alloc (.cells #[.int .u16 op, .string nm, .int .u8 17, .slice a1 n1 c1, .slice a2 n2 c2, .int .i64 16, .bool false] 27) = x := ⟨_, rfl⟩
  have KA := hideT (show wa.heap[w1.heap.size]? = some (.cells #[.int .u16 op, .string nm, .int .u8 17, .slice a1 n1 c1, .slice a2 n2 c2, .int .i64 16, .bool false] 27 (0, 0)) by rw [← hwa]; exact heap_alloc_new w1 _)
  have BA := hideT (show Below w.heap.size w wa by rw [← hwa]; exact hb1.alloc hb1.size _)
  obtain ⟨g, x, rfl, hcx, hx⟩ := hfst (by omega)
  obtain rfl := hx (by first | exact .inl rfl | exact .inr rfl)
  have zx : wa.cell? ⟨g, 0, none⟩ = some (.int .u8 127) := by rw [← hwa]; exact cell_laterF ((Below.refl _ _).alloc (Nat.le_refl _) _) hcx
  rw [← hwa] at zx
  clear hcx hx
  have HWA := hideT hwa
  clear hwa hb1 CA
  dsimp only
  go_wp2_with fail
  rw [HWA.out]
  refine (CW.out _ (by first | exact Below.refl _ _ | exact BAA.out | exact BAB.out | exact BAC.out | exact BA.out | exact B1.out | exact B2.out | exact B3.out | exact HB2.out | exact HB3.out | exact HB.out | exact BL.out | exact BM.out | exact BW.out)).mono ?_
  rintro e w4 ⟨rfl, hb4⟩
  have B4 := hideT (BA.out.trans (hb4.mono BA.out.size))
  clear hb4
  go_wp2
  go_ret
  exact ⟨rfl, B4.out⟩

set_option maxHeartbeats 8000000 in
theorem plainP_17_32 (hO : TOfOK) (o op : Int) (nm : ByteArray) (n1 n2 : Nat) (w : World) (hT : STab w) (h1 : n1 ≠ 0) (h2 : n2 ≤ 1) (CA : Hid (OfF w o op nm 17 n1 n2 32 0 false)) :
    Calls Tryd.prog 7 #[.int .u16 o] w fun e w' => e = .returned (.bool true) ∧ Below w.heap.size w w' := by
  have CW := hideT (fun V (hV : Below w.heap.size w V) => works10_calls hO V (hT.later hV))
  have t1 : ((n1 : Int) == 0) = false := by simp; omega
  have t2 : decide ((1 : Int) < (n2 : Int)) = false := by simp; omega
  have t3 : decide (1 < n2) = false := by simp; omega
  have t4 : (0 : Int) < (n1 : Int) := by omega
  go_enter Tryd.func7, Tryd.ntmps7
  go_wp2_with fail
  refine (CA.out _ (by first | exact Below.refl _ _ | exact BAA.out | exact BAB.out | exact BAC.out | exact BA.out | exact B1.out | exact B2.out | exact B3.out | exact HB2.out | exact HB3.out | exact HB.out | exact BL.out | exact BM.out | exact BW.out)).mono ?_
  rintro e w1 ⟨a1, c1, a2, c2, rfl, hfst, hb1⟩
  obtain ⟨wa, hwa⟩ : ∃ x, w1.alloc (.cells #[.int .u16 op, .string nm, .int .u8 17, .slice a1 n1 c1, .slice a2 n2 c2, .int .i64 32, .bool false] 27) = x := ⟨_, rfl⟩
  have KA := hideT (show wa.heap[w1.heap.size]? = some (.cells #[.int .u16 op, .string nm, .int .u8 17, .slice a1 n1 c1, .slice a2 n2 c2, .int .i64 32, .bool false] 27 (0, 0)) by rw [← hwa]; exact heap_alloc_new w1 _)
  have BA := hideT (show Below w.heap.size w wa by rw [← hwa]; exact hb1.alloc hb1.size _)
  obtain ⟨g, x, rfl, hcx, hx⟩ := hfst (by omega)
  obtain rfl := hx (by first | exact .inl rfl | exact .inr rfl)
  have zx : wa.cell? ⟨g, 0, none⟩ = some (.int .u8 127) := by rw [← hwa]; exact cell_laterF ((Below.refl _ _).alloc (Nat.le_refl _) _) hcx
  rw [← hwa] at zx
  clear hcx hx
  have HWA := hideT hwa
  clear hwa hb1 CA
  dsimp only
  go_wp2_with fail
  rw [HWA.out]
  refine (CW.out _ (by first | exact Below.refl _ _ | exact BAA.out | exact BAB.out | exact BAC.out | exact BA.out | exact B1.out | exact B2.out | exact B3.out | exact HB2.out | exact HB3.out | exact HB.out | exact BL.out | exact BM.out | exact BW.out)).mono ?_
  rintro e w4 ⟨rfl, hb4⟩
  have B4 := hideT (BA.out.trans (hb4.mono BA.out.size))
  clear hb4
  go_wp2
  go_ret
  exact ⟨rfl, B4.out⟩

set_option maxHeartbeats 8000000 in
theorem plainP_17_64 (hO : TOfOK) (o op : Int) (nm : ByteArray) (n1 n2 : Nat) (w : World) (hT : STab w) (h1 : n1 ≠ 0) (h2 : n2 ≤ 1) (CA : Hid (OfF w o op nm 17 n1 n2 64 0 false)) :
    Calls Tryd.prog 7 #[.int .u16 o] w fun e w' => e = .returned (.bool true) ∧ Below w.heap.size w w' := by
  have CW := hideT (fun V (hV : Below w.heap.size w V) => works10_calls hO V (hT.later hV))
  have t1 : ((n1 : Int) == 0) = false := by simp; omega
  have t2 : decide ((1 : Int) < (n2 : Int)) = false := by simp; omega
  have t3 : decide (1 < n2) = false := by simp; omega
  have t4 : (0 : Int) < (n1 : Int) := by omega
  go_enter Tryd.func7, Tryd.ntmps7
  go_wp2_with fail
  refine (CA.out _ (by first | exact Below.refl _ _ | exact BAA.out | exact BAB.out | exact BAC.out | exact BA.out | exact B1.out | exact B2.out | exact B3.out | exact HB2.out | exact HB3.out | exact HB.out | exact BL.out | exact BM.out | exact BW.out)).mono ?_
  rintro e w1 ⟨a1, c1, a2, c2, rfl, hfst, hb1⟩
  obtain ⟨wa, hwa⟩ : ∃ x, w1.alloc (.cells #[.int .u16 op, .string nm, .int .u8 17, .slice a1 n1 c1, .slice a2 n2 c2, .int .i64 64, .bool false] 27) = x := ⟨_, rfl⟩
  have KA := hideT (show wa.heap[w1.heap.size]? = some (.cells #[.int .u16 op, .string nm, .int .u8 17, .slice a1 n1 c1, .slice a2 n2 c2, .int .i64 64, .bool false] 27 (0, 0)) by rw [← hwa]; exact heap_alloc_new w1 _)
  have BA := hideT (show Below w.heap.size w wa by rw [← hwa]; exact hb1.alloc hb1.size _)
  obtain ⟨g, x, rfl, hcx, hx⟩ := hfst (by omega)
  obtain rfl := hx (by first | exact .inl rfl | exact .inr rfl)
  have zx : wa.cell? ⟨g, 0, none⟩ = some (.int .u8 127) := by rw [← hwa]; exact cell_laterF ((Below.refl _ _).alloc (Nat.le_refl _) _) hcx
  rw [← hwa] at zx
  clear hcx hx
  have HWA := hideT hwa
  clear hwa hb1 CA
  dsimp only
  go_wp2_with fail
  rw [HWA.out]
  refine (CW.out _ (by first | exact Below.refl _ _ | exact BAA.out | exact BAB.out | exact BAC.out | exact BA.out | exact B1.out | exact B2.out | exact B3.out | exact HB2.out | exact HB3.out | exact HB.out | exact BL.out | exact BM.out | exact BW.out)).mono ?_
  rintro e w4 ⟨rfl, hb4⟩
  have B4 := hideT (BA.out.trans (hb4.mono BA.out.size))
  clear hb4
  go_wp2
  go_ret
  exact ⟨rfl, B4.out⟩

set_option maxHeartbeats 8000000 in
theorem plainP_17_128 (hO : TOfOK) (o op : Int) (nm : ByteArray) (n1 n2 : Nat) (w : World) (hT : STab w) (h1 : n1 ≠ 0) (h2 : n2 ≤ 1) (CA : Hid (OfF w o op nm 17 n1 n2 128 0 false)) :
    Calls Tryd.prog 7 #[.int .u16 o] w fun e w' => e = .returned (.bool true) ∧ Below w.heap.size w w' := by
  have CW := hideT (fun V (hV : Below w.heap.size w V) => works10_calls hO V (hT.later hV))
  have t1 : ((n1 : Int) == 0) = false := by simp; omega
  have t2 : decide ((1 : Int) < (n2 : Int)) = false := by simp; omega
  have t3 : decide (1 < n2) = false := by simp; omega
  have t4 : (0 : Int) < (n1 : Int) := by omega
  go_enter Tryd.func7, Tryd.ntmps7
  go_wp2_with fail
  refine (CA.out _ (by first | exact Below.refl _ _ | exact BAA.out | exact BAB.out | exact BAC.out | exact BA.out | exact B1.out | exact B2.out | exact B3.out | exact HB2.out | exact HB3.out | exact HB.out | exact BL.out | exact BM.out | exact BW.out)).mono ?_
  rintro e w1 ⟨a1, c1, a2, c2, rfl, hfst, hb1⟩
  obtain ⟨wa, hwa⟩ : ∃ x, w1.alloc (.cells #[.int .u16 op, .string nm, .int .u8 17, .slice a1 n1 c1, .slice a2 n2 c2, .int .i64 128, .bool false] 27) = x := ⟨_, rfl⟩
  have KA := hideT (show wa.heap[w1.heap.size]? = some (.cells #[.int .u16 op, .string nm, .int .u8 17, .slice a1 n1 c1, .slice a2 n2 c2, .int .i64 128, .bool false] 27 (0, 0)) by rw [← hwa]; exact heap_alloc_new w1 _)
  have BA := hideT (show Below w.heap.size w wa by rw [← hwa]; exact hb1.alloc hb1.size _)
  obtain ⟨g, x, rfl, hcx, hx⟩ := hfst (by omega)
  obtain rfl := hx (by first | exact .inl rfl | exact .inr rfl)
  have zx : wa.cell? ⟨g, 0, none⟩ = some (.int .u8 127) := by rw [← hwa]; exact cell_laterF ((Below.refl _ _).alloc (Nat.le_refl _) _) hcx
  rw [← hwa] at zx
  clear hcx hx
  have HWA := hideT hwa
  clear hwa hb1 CA
  dsimp only
  go_wp2_with fail
  rw [HWA.out]
  refine (CW.out _ (by first | exact Below.refl _ _ | exact BAA.out | exact BAB.out | exact BAC.out | exact BA.out | exact B1.out | exact B2.out | exact B3.out | exact HB2.out | exact HB3.out | exact HB.out | exact BL.out | exact BM.out | exact BW.out)).mono ?_
  rintro e w4 ⟨rfl, hb4⟩
  have B4 := hideT (BA.out.trans (hb4.mono BA.out.size))
  clear hb4
  go_wp2
  go_ret
  exact ⟨rfl, B4.out⟩

set_option maxHeartbeats 8000000 in
theorem plainN_0 (hO : TOfOK) (o op : Int) (nm : ByteArray) (n1 : Nat) (w : World) (hT : STab w)  (CA : Hid (OfF w o op nm 0 n1 1 0 0 true)) :
    Calls Tryd.prog 7 #[.int .u16 o] w fun e w' => e = .returned (.bool true) ∧ Below w.heap.size w w' := by
  have CW := hideT (fun V (hV : Below w.heap.size w V) => works10_calls hO V (hT.later hV))
  go_enter Tryd.func7, Tryd.ntmps7
  go_wp2_with fail
  refine (CA.out _ (by first | exact Below.refl _ _ | exact BAA.out | exact BAB.out | exact BAC.out | exact BA.out | exact B1.out | exact B2.out | exact B3.out | exact HB2.out | exact HB3.out | exact HB.out | exact BL.out | exact BM.out | exact BW.out)).mono ?_
  rintro e w1 ⟨a1, c1, a2, c2, rfl, hfst, hb1⟩
  obtain ⟨wa, hwa⟩ : ∃ x, w1.alloc (.cells #[.int .u16 op, .string nm, .int .u8 0, .slice a1 n1 c1, .slice a2 1 c2, .int .i64 0, .bool true] 27) = x := ⟨_, rfl⟩
  have KA := hideT (show wa.heap[w1.heap.size]? = some (.cells #[.int .u16 op, .string nm, .int .u8 0, .slice a1 n1 c1, .slice a2 1 c2, .int .i64 0, .bool true] 27 (0, 0)) by rw [← hwa]; exact heap_alloc_new w1 _)
  have BA := hideT (show Below w.heap.size w wa by rw [← hwa]; exact hb1.alloc hb1.size _)
  clear hfst
  have HWA := hideT hwa
  clear hwa hb1 CA
  dsimp only
  go_wp2_with fail
  rw [HWA.out]
  refine (CW.out _ (by first | exact Below.refl _ _ | exact BAA.out | exact BAB.out | exact BAC.out | exact BA.out | exact B1.out | exact B2.out | exact B3.out | exact HB2.out | exact HB3.out | exact HB.out | exact BL.out | exact BM.out | exact BW.out)).mono ?_
  rintro e w4 ⟨rfl, hb4⟩
  have B4 := hideT (BA.out.trans (hb4.mono BA.out.size))
  clear hb4
  go_wp2
  go_ret
  exact ⟨rfl, B4.out⟩

set_option maxHeartbeats 8000000 in
theorem plainN_18 (hO : TOfOK) (o op : Int) (nm : ByteArray) (n1 : Nat) (w : World) (hT : STab w)  (CA : Hid (OfF w o op nm 18 n1 1 0 0 true)) :
    Calls Tryd.prog 7 #[.int .u16 o] w fun e w' => e = .returned (.bool true) ∧ Below w.heap.size w w' := by
  have CW := hideT (fun V (hV : Below w.heap.size w V) => works10_calls hO V (hT.later hV))
  go_enter Tryd.func7, Tryd.ntmps7
  go_wp2_with fail
  refine (CA.out _ (by first | exact Below.refl _ _ | exact BAA.out | exact BAB.out | exact BAC.out | exact BA.out | exact B1.out | exact B2.out | exact B3.out | exact HB2.out | exact HB3.out | exact HB.out | exact BL.out | exact BM.out | exact BW.out)).mono ?_
  rintro e w1 ⟨a1, c1, a2, c2, rfl, hfst, hb1⟩
  obtain ⟨wa, hwa⟩ : ∃ x, w1.alloc (.cells #[.int .u16 op, .string nm, .int .u8 18, .slice a1 n1 c1, .slice a2 1 c2, .int .i64 0, .bool true] 27) = x := ⟨_, rfl⟩
  have KA := hideT (show wa.heap[w1.heap.size]? = some (.cells #[.int .u16 op, .string nm, .int .u8 18, .slice a1 n1 c1, .slice a2 1 c2, .int .i64 0, .bool true] 27 (0, 0)) by rw [← hwa]; exact heap_alloc_new w1 _)
  have BA := hideT (show Below w.heap.size w wa by rw [← hwa]; exact hb1.alloc hb1.size _)
  clear hfst
  have HWA := hideT hwa
  clear hwa hb1 CA
  dsimp only
  go_wp2_with fail
  rw [HWA.out]
  refine (CW.out _ (by first | exact Below.refl _ _ | exact BAA.out | exact BAB.out | exact BAC.out | exact BA.out | exact B1.out | exact B2.out | exact B3.out | exact HB2.out | exact HB3.out | exact HB.out | exact BL.out | exact BM.out | exact BW.out)).mono ?_
  rintro e w4 ⟨rfl, hb4⟩
  have B4 := hideT (BA.out.trans (hb4.mono BA.out.size))
  clear hb4
  go_wp2
  go_ret
  exact ⟨rfl, B4.out⟩

set_option maxHeartbeats 8000000 in
theorem plainN_19 (hO : TOfOK) (o op : Int) (nm : ByteArray) (n1 : Nat) (w : World) (hT : STab w)  (CA : Hid (OfF w o op nm 19 n1 1 0 0 true)) :
    Calls Tryd.prog 7 #[.int .u16 o] w fun e w' => e = .returned (.bool true) ∧ Below w.heap.size w w' := by
  have CW := hideT (fun V (hV : Below w.heap.size w V) => works10_calls hO V (hT.later hV))
  go_enter Tryd.func7, Tryd.ntmps7
  go_wp2_with fail
  refine (CA.out _ (by first | exact Below.refl _ _ | exact BAA.out | exact BAB.out | exact BAC.out | exact BA.out | exact B1.out | exact B2.out | exact B3.out | exact HB2.out | exact HB3.out | exact HB.out | exact BL.out | exact BM.out | exact BW.out)).mono ?_
  rintro e w1 ⟨a1, c1, a2, c2, rfl, hfst, hb1⟩
  obtain ⟨wa, hwa⟩ : ∃ x, w1.alloc (.cells #[.int .u16 op, .string nm, .int .u8 19, .slice a1 n1 c1, .slice a2 1 c2, .int .i64 0, .bool true] 27) = x := ⟨_, rfl⟩
  have KA := hideT (show wa.heap[w1.heap.size]? = some (.cells #[.int .u16 op, .string nm, .int .u8 19, .slice a1 n1 c1, .slice a2 1 c2, .int .i64 0, .bool true] 27 (0, 0)) by rw [← hwa]; exact heap_alloc_new w1 _)
  have BA := hideT (show Below w.heap.size w wa by rw [← hwa]; exact hb1.alloc hb1.size _)
  clear hfst
  have HWA := hideT hwa
  clear hwa hb1 CA
  dsimp only
  go_wp2_with fail
  rw [HWA.out]
  refine (CW.out _ (by first | exact Below.refl _ _ | exact BAA.out | exact BAB.out | exact BAC.out | exact BA.out | exact B1.out | exact B2.out | exact B3.out | exact HB2.out | exact HB3.out | exact HB.out | exact BL.out | exact BM.out | exact BW.out)).mono ?_
  rintro e w4 ⟨rfl, hb4⟩
  have B4 := hideT (BA.out.trans (hb4.mono BA.out.size))
  clear hb4
  go_wp2
  go_ret
  exact ⟨rfl, B4.out⟩

set_option maxHeartbeats 8000000 in
theorem plainO (hO : TOfOK) (o op : Int) (nm : ByteArray) (imm : Int) (n1 n2 : Nat) (w : World) (hT : STab w) (q20 : (imm == 20) = false) (q21 : (imm == 21) = false) (q22 : (imm == 22) = false) (q23 : (imm == 23) = false) (q24 : (imm == 24) = false) (q16 : (imm == 16) = false) (q17 : (imm == 17) = false) (CA : Hid (OfF w o op nm imm n1 n2 0 0 false)) :
    Calls Tryd.prog 7 #[.int .u16 o] w fun e w' => e = .returned (.bool true) ∧ Below w.heap.size w w' := by
  have CW := hideT (fun V (hV : Below w.heap.size w V) => works10_calls hO V (hT.later hV))
  go_enter Tryd.func7, Tryd.ntmps7
  go_wp2_with fail
  refine (CA.out _ (by first | exact Below.refl _ _ | exact BAA.out | exact BAB.out | exact BAC.out | exact BA.out | exact B1.out | exact B2.out | exact B3.out | exact HB2.out | exact HB3.out | exact HB.out | exact BL.out | exact BM.out | exact BW.out)).mono ?_
  rintro e w1 ⟨a1, c1, a2, c2, rfl, hfst, hb1⟩
  obtain ⟨wa, hwa⟩ : ∃ x, w1.alloc (.cells #[.int .u16 op, .string nm, .int .u8 imm, .slice a1 n1 c1, .slice a2 n2 c2, .int .i64 0, .bool false] 27) = x := ⟨_, rfl⟩
  have KA := hideT (show wa.heap[w1.heap.size]? = some (.cells #[.int .u16 op, .string nm, .int .u8 imm, .slice a1 n1 c1, .slice a2 n2 c2, .int .i64 0, .bool false] 27 (0, 0)) by rw [← hwa]; exact heap_alloc_new w1 _)
  have BA := hideT (show Below w.heap.size w wa by rw [← hwa]; exact hb1.alloc hb1.size _)
  clear hfst
  have HWA := hideT hwa
  clear hwa hb1 CA
  dsimp only
  go_wp2_with fail
  rw [HWA.out]
  refine (CW.out _ (by first | exact Below.refl _ _ | exact BAA.out | exact BAB.out | exact BAC.out | exact BA.out | exact B1.out | exact B2.out | exact B3.out | exact HB2.out | exact HB3.out | exact HB.out | exact BL.out | exact BM.out | exact BW.out)).mono ?_
  rintro e w4 ⟨rfl, hb4⟩
  have B4 := hideT (BA.out.trans (hb4.mono BA.out.size))
  clear hb4
  go_wp2
  go_ret
  exact ⟨rfl, B4.out⟩

set_option maxHeartbeats 8000000 in
theorem plainE (hO : TOfOK) (o op : Int) (nm : ByteArray) (imm bits er : Int) (pl : Bool) (n1 n2 : Nat) (w : World) (hT : STab w) (he : (er != 0) = true) (CA : Hid (OfF w o op nm imm n1 n2 bits er pl)) :
    Calls Tryd.prog 7 #[.int .u16 o] w fun e w' => e = .returned (.bool true) ∧ Below w.heap.size w w' := by
  have CW := hideT (fun V (hV : Below w.heap.size w V) => works10_calls hO V (hT.later hV))
  go_enter Tryd.func7, Tryd.ntmps7
  go_wp2_with fail
  refine (CA.out _ (by first | exact Below.refl _ _ | exact BAA.out | exact BAB.out | exact BAC.out | exact BA.out | exact B1.out | exact B2.out | exact B3.out | exact HB2.out | exact HB3.out | exact HB.out | exact BL.out | exact BM.out | exact BW.out)).mono ?_
  rintro e w1 ⟨a1, c1, a2, c2, rfl, hfst, hb1⟩
  obtain ⟨wa, hwa⟩ : ∃ x, w1.alloc (.cells #[.int .u16 op, .string nm, .int .u8 imm, .slice a1 n1 c1, .slice a2 n2 c2, .int .i64 bits, .bool pl] 27) = x := ⟨_, rfl⟩
  have KA := hideT (show wa.heap[w1.heap.size]? = some (.cells #[.int .u16 op, .string nm, .int .u8 imm, .slice a1 n1 c1, .slice a2 n2 c2, .int .i64 bits, .bool pl] 27 (0, 0)) by rw [← hwa]; exact heap_alloc_new w1 _)
  have BA := hideT (show Below w.heap.size w wa by rw [← hwa]; exact hb1.alloc hb1.size _)
  clear hfst
  have HWA := hideT hwa
  clear hwa hb1 CA
  dsimp only
  go_wp2_with fail
  rw [HWA.out]
  refine (CW.out _ (by first | exact Below.refl _ _ | exact BAA.out | exact BAB.out | exact BAC.out | exact BA.out | exact B1.out | exact B2.out | exact B3.out | exact HB2.out | exact HB3.out | exact HB.out | exact BL.out | exact BM.out | exact BW.out)).mono ?_
  rintro e w4 ⟨rfl, hb4⟩
  have B4 := hideT (BA.out.trans (hb4.mono BA.out.size))
  clear hb4
  go_wp2
  go_ret
  exact ⟨rfl, B4.out⟩

theorem OfF_of (hO : TOfOK) (w : World) (hT : STab w) (o : Nat) (ho : o < 65536) {R : InfoD} (hR : ofR o = R) (h16 : (R.imm = 16 ∨ R.imm = 17) → R.fr[0]?.getD 0 = 127) : OfF w (o : Int) (R.op : Int) (str R.name) (R.imm : Int) R.fr.length R.to.length (R.bits : Int) (ofE o) R.plain := by
  intro V hV
  refine (hO o V ho (hT.later hV)).mono fun e w' h => ?_
  obtain ⟨a1, c1, a2, c2, he, h1, h2, hb⟩ := h.q
  rw [hR] at he h1
  refine ⟨a1, c1, a2, c2, he, fun h0 => ?_, hb⟩
  obtain ⟨_, ⟨e1, e2⟩ | ⟨g, cap, cur, e1, _⟩⟩ := id h1
  · omega
  · simp only [Value.slice.injEq] at e1
    obtain ⟨rfl, -, rfl⟩ := e1
    refine ⟨g, R.fr[0]?.getD 0, rfl, ?_, fun hi => ?_⟩
    · rw [World.ownsRow.cellAt h1 0 (by omega), List.getElem?_map, List.getElem?_eq_getElem h0]
      rfl
    · exact h16 (by omega)
theorem opsPlain_law (hO : TOfOK) (o : Nat) (ho : o < 65536) (w : World) (hT : STab w) : Calls Tryd.prog 7 #[.int .u16 (o : Int)] w fun e w' => e = .returned (.bool true) ∧ Below w.heap.size w w' := by
  cases hq : ofD o with
  | none =>
    have hz := ofR_none hq
    have C := OfF_of hO w hT o ho hz.1 (by intro h; exact absurd h (by decide))
    exact plainE hO _ _ _ _ _ _ _ _ _ w hT (by rw [hz.2]; rfl) (hideT C)
  | some R =>
    have hz := ofR_some hq
    obtain ⟨hm, _⟩ := ofD_mem hq
    have hp := List.all_eq_true.1 plain_all R hm
    unfold plainB at hp
    have C := OfF_of hO w hT o ho hz.1
    rw [hz.2] at C
    obtain ⟨op, name, imm, fr, to, bits, plain⟩ := R
    simp only at hp C
    split at hp
    · next h =>
      simp only [Bool.and_eq_true, decide_eq_true_eq] at hp
      obtain ⟨⟨⟨h1, h2⟩, h3⟩, h4⟩ := hp
      subst h1
      subst h3
      have C := C (by omega)
      rw [h2, h4] at C
      rcases h with rfl | rfl | rfl | rfl | rfl
      · exact plainA_20 hO _ _ _ w hT (hideT C)
      · exact plainA_21 hO _ _ _ w hT (hideT C)
      · exact plainA_22 hO _ _ _ w hT (hideT C)
      · exact plainA_23 hO _ _ _ w hT (hideT C)
      · exact plainA_24 hO _ _ _ w hT (hideT C)
    · split at hp
      · next h =>
        simp only [Bool.and_eq_true, decide_eq_true_eq, Bool.not_eq_true'] at hp
        obtain ⟨⟨⟨⟨h1, h2⟩, h3⟩, h4⟩, h5⟩ := hp
        subst h1
        have C := C (fun _ => h3)
        rcases h with rfl | rfl <;> rcases h5 with rfl | rfl | rfl | rfl | rfl
        · exact plainP_16_8 hO _ _ _ _ _ w hT h2 h4 (hideT C)
        · exact plainP_16_16 hO _ _ _ _ _ w hT h2 h4 (hideT C)
        · exact plainP_16_32 hO _ _ _ _ _ w hT h2 h4 (hideT C)
        · exact plainP_16_64 hO _ _ _ _ _ w hT h2 h4 (hideT C)
        · exact plainP_16_128 hO _ _ _ _ _ w hT h2 h4 (hideT C)
        · exact plainP_17_8 hO _ _ _ _ _ w hT h2 h4 (hideT C)
        · exact plainP_17_16 hO _ _ _ _ _ w hT h2 h4 (hideT C)
        · exact plainP_17_32 hO _ _ _ _ _ w hT h2 h4 (hideT C)
        · exact plainP_17_64 hO _ _ _ _ _ w hT h2 h4 (hideT C)
        · exact plainP_17_128 hO _ _ _ _ _ w hT h2 h4 (hideT C)
      · next hA hP =>
        have C := C (fun h => absurd h hP)
        split at hp
        · next h =>
          simp only [Bool.and_eq_true, decide_eq_true_eq] at hp
          obtain ⟨⟨h1, h2⟩, h3⟩ := hp
          subst h
          subst h3
          rw [h2] at C
          rcases h1 with rfl | rfl | rfl
          · exact plainN_0 hO _ _ _ _ w hT (hideT C)
          · exact plainN_18 hO _ _ _ _ w hT (hideT C)
          · exact plainN_19 hO _ _ _ _ w hT (hideT C)
        · next h =>
          simp only [decide_eq_true_eq] at hp
          subst hp
          have hpl : plain = false := by simpa using h
          subst hpl
          exact plainO hO _ _ _ _ _ _ w hT (by simp; omega) (by simp; omega) (by simp; omega) (by simp; omega) (by simp; omega) (by simp; omega) (by simp; omega) (hideT C)
end Go.Proofs.YthggbimnjneeaaaDoor
