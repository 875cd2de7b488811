/-
  OpsOf, OpsNamed, OpsBack, OpsPages, OpsUnlike (genopslaw.py wrote it).
-/
import Derived.Test.YthggbimnjneeaaaDoorOpsAsk
set_option linter.unusedVariables false
set_option maxRecDepth 100000
set_option linter.unusedSimpArgs false
namespace Go.Proofs.YthggbimnjneeaaaDoor
open Go.RowKit Opp

theorem wf_nat16 {x : Int} (h : (Lit.int .u16 x).wf = true) : ∃ n : Nat, x = n ∧ n < 65536 := by
  simp [Lit.wf, IntKind.min, IntKind.max, IntKind.bits, IntKind.signed] at h
  exact ⟨x.toNat, by omega, by omega⟩
theorem toList_injB {a b : ByteArray} (h : a.toList = b.toList) : a = b := by
  rw [ByteArray.toList_eq, ByteArray.toList_eq] at h
  exact ByteArray.ext (Array.ext' h)

set_option maxHeartbeats 4000000 in
theorem opsOf_law (hO : TOfOK) (o : Nat) (ho : o < 65536) (w : World) (hT : STab w) : Calls Tryd.prog 3 #[.int .u16 (o : Int)] w fun e w' => e = .returned (.bool true) ∧ Below w.heap.size w w' := by
  have CA := hideT (fun V (hV : Below w.heap.size w V) => (hO o V ho (hT.later hV)).mono fun e w' h => h.q)
  have CB := hideT (fun V (hV : Below w.heap.size w V) => (rOf_calls o ho V).mono fun e w' h => h.q)
  have CW := hideT (fun V (hV : Below w.heap.size w V) => works10_calls hO V (hT.later hV))
  generalize ofR o = R at *
  generalize ofE o = er at *
  clear ho
  go_enter Tryd.func3, Tryd.ntmps3
  go_wp2_with fail
  refine (CA.out _ (by first | exact Below.refl _ _ | exact BAA.out | exact BAB.out | exact BAC.out | exact BA.out | exact B1.out | exact B2.out | exact B3.out | exact HB2.out | exact HB3.out | exact HB.out | exact BL.out | exact BM.out | exact BW.out)).mono ?_
  rintro e wA ⟨a1A, c1A, a2A, c2A, rfl, ho1A, ho2A, hbA⟩
  obtain ⟨waA, hwaA⟩ : ∃ x, wA.alloc (.cells #[.int .u16 (R.op : Int), .string (str R.name), .int .u8 (R.imm : Int), .slice a1A R.fr.length c1A, .slice a2A R.to.length c2A, .int .i64 (R.bits : Int), .bool R.plain] 27) = x := ⟨_, rfl⟩
  have KAA := hideT (show waA.heap[wA.heap.size]? = some (.cells #[.int .u16 (R.op : Int), .string (str R.name), .int .u8 (R.imm : Int), .slice a1A R.fr.length c1A, .slice a2A R.to.length c2A, .int .i64 (R.bits : Int), .bool R.plain] 27 (0, 0)) by rw [← hwaA]; exact heap_alloc_new wA _)
  have BAA := hideT (show Below w.heap.size w waA by rw [← hwaA]; exact hbA.alloc hbA.size _)
  have OVA : Hid (InfoV waA w.heap.size (.agg #[.int .u16 (R.op : Int), .string (str R.name), .int .u8 (R.imm : Int), .slice a1A R.fr.length c1A, .slice a2A R.to.length c2A, .int .i64 (R.bits : Int), .bool R.plain]) R) := hideT (InfoV.mono (InfoV.later ⟨a1A, c1A, a2A, c2A, rfl, ho1A, ho2A⟩ (by rw [← hwaA]; exact (Below.refl _ _).alloc (Nat.le_refl _) _)) (Nat.le_refl _))
  clear ho1A ho2A
  have HWAA := hideT hwaA
  clear hwaA hbA
  dsimp only
  clear CA
  go_wp2_with fail
  rw [HWAA.out]
  refine (CB.out _ (by first | exact Below.refl _ _ | exact BAA.out | exact BAB.out | exact BAC.out | exact BA.out | exact B1.out | exact B2.out | exact B3.out | exact HB2.out | exact HB3.out | exact HB.out | exact BL.out | exact BM.out | exact BW.out)).mono ?_
  rintro e wB ⟨a1B, c1B, a2B, c2B, rfl, ho1B, ho2B, hbB⟩
  obtain ⟨waB, hwaB⟩ : ∃ x, wB.alloc (.cells #[.int .u16 (R.op : Int), .string (str R.name), .int .u8 (R.imm : Int), .slice a1B R.fr.length c1B, .slice a2B R.to.length c2B, .int .i64 (R.bits : Int), .bool R.plain] 27) = x := ⟨_, rfl⟩
  have KAB := hideT (show waB.heap[wB.heap.size]? = some (.cells #[.int .u16 (R.op : Int), .string (str R.name), .int .u8 (R.imm : Int), .slice a1B R.fr.length c1B, .slice a2B R.to.length c2B, .int .i64 (R.bits : Int), .bool R.plain] 27 (0, 0)) by rw [← hwaB]; exact heap_alloc_new wB _)
  have BSB := hideT (show Below waA.heap.size waA waB by rw [← hwaB]; exact hbB.alloc hbB.size _)
  have BAB := hideT (BAA.out.trans (BSB.out.mono BAA.out.size))
  have KAA := hideT ((BSB.out.block _ (Array.getElem?_eq_some_iff.1 KAA.out).1).trans KAA.out)
  have OVB : Hid (InfoV waB w.heap.size (.agg #[.int .u16 (R.op : Int), .string (str R.name), .int .u8 (R.imm : Int), .slice a1B R.fr.length c1B, .slice a2B R.to.length c2B, .int .i64 (R.bits : Int), .bool R.plain]) R) := hideT (InfoV.mono (InfoV.later ⟨a1B, c1B, a2B, c2B, rfl, ho1B, ho2B⟩ (by rw [← hwaB]; exact (Below.refl _ _).alloc (Nat.le_refl _) _)) BAA.out.size)
  clear ho1B ho2B
  have HWAB := hideT hwaB
  clear hwaB hbB
  dsimp only
  clear CB
  have CI := hideT (f0Info_calls _ _ R w.heap.size w.heap.size waB (OVA.out.later BSB.out) OVB.out)
  have KB := KAB.out
  rw [← HWAB.out] at KB
  have KA := KAA.out
  rw [← HWAB.out] at KA
  go_wp2_with (first | (refine wpList_load_row rfl 27 _ rfl _ rfl _ _ _ _ KA Tryd.underlying27 rfl infoInfo ?_) | (refine wpList_load_row rfl 27 _ rfl _ rfl _ _ _ _ KB Tryd.underlying27 rfl infoInfo ?_))
  rw [HWAB.out]
  refine CI.out.mono ?_
  rintro e w3 ⟨rfl, hb3⟩
  have B3 := hideT (BAB.out.trans (hb3.mono BAB.out.size))
  clear hb3 KA KB
  dsimp only
  go_wp2_with fail
  refine (CW.out _ (by first | exact Below.refl _ _ | exact BAA.out | exact BAB.out | exact BAC.out | exact BA.out | exact B1.out | exact B2.out | exact B3.out | exact HB2.out | exact HB3.out | exact HB.out | exact BL.out | exact BM.out | exact BW.out)).mono ?_
  rintro e w4 ⟨rfl, hb4⟩
  have B4 := hideT (B3.out.trans (hb4.mono B3.out.size))
  clear hb4
  go_wp2
  go_ret
  exact ⟨rfl, B4.out⟩

def RNamedOK : Prop := ∀ (s : ByteArray) (w : World), Calls Tryd.prog 14 #[.string s] w fun e w' => e = .returned (namedV s) ∧ Below w.heap.size w w'

set_option maxHeartbeats 4000000 in
theorem opsNamed_law (hO : TOfOK) (hN : TNamedOK) (hR : RNamedOK) (s : ByteArray) (hs : s.size ≤ 9223372036854775807) (w : World) (hT : STab w) : Calls Tryd.prog 4 #[.string s] w fun e w' => e = .returned (.bool true) ∧ Below w.heap.size w w' := by
  have CA := hideT (fun V (hV : Below w.heap.size w V) => hN s V hs (hT.later hV))
  have CB := hideT (fun V (hV : Below w.heap.size w V) => hR s V)
  have CW := hideT (fun V (hV : Below w.heap.size w V) => works10_calls hO V (hT.later hV))
  unfold namedV at CA CB
  generalize ((namedD s).getD 0 : Nat) = n at *
  generalize (if (namedD s).isSome = true then (0 : Int) else 11) = er at *
  go_enter Tryd.func4, Tryd.ntmps4
  go_wp2_with fail
  refine (CA.out _ (by first | exact Below.refl _ _ | exact BAA.out | exact BAB.out | exact BAC.out | exact BA.out | exact B1.out | exact B2.out | exact B3.out | exact HB2.out | exact HB3.out | exact HB.out | exact BL.out | exact BM.out | exact BW.out)).mono ?_
  rintro e w1 ⟨rfl, hb1⟩
  have B1 := hideT hb1
  clear hb1
  dsimp only
  go_wp2_with fail
  refine (CB.out _ (by first | exact Below.refl _ _ | exact BAA.out | exact BAB.out | exact BAC.out | exact BA.out | exact B1.out | exact B2.out | exact B3.out | exact HB2.out | exact HB3.out | exact HB.out | exact BL.out | exact BM.out | exact BW.out)).mono ?_
  rintro e w2 ⟨rfl, hb2⟩
  have B2 := hideT (B1.out.trans (hb2.mono B1.out.size))
  clear hb2
  dsimp only
  go_wp2_with fail
  refine (CW.out _ (by first | exact Below.refl _ _ | exact BAA.out | exact BAB.out | exact BAC.out | exact BA.out | exact B1.out | exact B2.out | exact B3.out | exact HB2.out | exact HB3.out | exact HB.out | exact BL.out | exact BM.out | exact BW.out)).mono ?_
  rintro e w4 ⟨rfl, hb4⟩
  have B4 := hideT (B2.out.trans (hb4.mono B2.out.size))
  clear hb4
  go_wp2
  go_ret
  exact ⟨rfl, B4.out⟩

set_option maxHeartbeats 4000000 in
theorem opsBack_law (hO : TOfOK) (hN : TNamedOK) (o : Nat) (ho : o < 65536) (w : World) (hT : STab w) : Calls Tryd.prog 6 #[.int .u16 (o : Int)] w fun e w' => e = .returned (.bool true) ∧ Below w.heap.size w w' := by
  have CA := (fun V (hV : Below w.heap.size w V) => (hO o V ho (hT.later hV)).mono fun e w' h => h.q)
  have CW := hideT (fun V (hV : Below w.heap.size w V) => works10_calls hO V (hT.later hV))
  cases hq : ofD o with
  | none =>
    rw [(ofR_none hq).1, (ofR_none hq).2] at CA
    have CA := hideT CA
    clear hq ho
    go_enter Tryd.func6, Tryd.ntmps6
    go_wp2_with fail
    refine (CA.out _ (by first | exact Below.refl _ _ | exact BAA.out | exact BAB.out | exact BAC.out | exact BA.out | exact B1.out | exact B2.out | exact B3.out | exact HB2.out | exact HB3.out | exact HB.out | exact BL.out | exact BM.out | exact BW.out)).mono ?_
    rintro e wA ⟨a1A, c1A, a2A, c2A, rfl, ho1A, ho2A, hbA⟩
    obtain ⟨waA, hwaA⟩ : ∃ x, wA.alloc (.cells #[.int .u16 (zeroD.op : Int), .string (str zeroD.name), .int .u8 (zeroD.imm : Int), .slice a1A zeroD.fr.length c1A, .slice a2A zeroD.to.length c2A, .int .i64 (zeroD.bits : Int), .bool zeroD.plain] 27) = x := ⟨_, rfl⟩
    have KAA := hideT (show waA.heap[wA.heap.size]? = some (.cells #[.int .u16 (zeroD.op : Int), .string (str zeroD.name), .int .u8 (zeroD.imm : Int), .slice a1A zeroD.fr.length c1A, .slice a2A zeroD.to.length c2A, .int .i64 (zeroD.bits : Int), .bool zeroD.plain] 27 (0, 0)) by rw [← hwaA]; exact heap_alloc_new wA _)
    have BAA := hideT (show Below w.heap.size w waA by rw [← hwaA]; exact hbA.alloc hbA.size _)
    have OVA : Hid (InfoV waA w.heap.size (.agg #[.int .u16 (zeroD.op : Int), .string (str zeroD.name), .int .u8 (zeroD.imm : Int), .slice a1A zeroD.fr.length c1A, .slice a2A zeroD.to.length c2A, .int .i64 (zeroD.bits : Int), .bool zeroD.plain]) zeroD) := hideT (InfoV.mono (InfoV.later ⟨a1A, c1A, a2A, c2A, rfl, ho1A, ho2A⟩ (by rw [← hwaA]; exact (Below.refl _ _).alloc (Nat.le_refl _) _)) (Nat.le_refl _))
    clear ho1A ho2A
    have HWAA := hideT hwaA
    clear hwaA hbA
    dsimp only
    clear CA
    have KA := KAA.out
    rw [← HWAA.out] at KA
    have CI := hideT (f0Info_calls _ _ zeroD w.heap.size w.heap.size waA OVA.out (InfoV.zero _ _))
    go_wp2_with (refine wpList_load_row rfl 27 _ rfl _ rfl _ _ _ _ KA Tryd.underlying27 rfl infoInfo ?_)
    rw [HWAA.out]
    refine CI.out.mono ?_
    rintro e w3 ⟨rfl, hb3⟩
    have B3 := hideT (BAA.out.trans (hb3.mono BAA.out.size))
    clear hb3 KA
    dsimp only
    go_wp2_with fail
    refine (CW.out _ (by first | exact Below.refl _ _ | exact BAA.out | exact BAB.out | exact BAC.out | exact BA.out | exact B1.out | exact B2.out | exact B3.out | exact HB2.out | exact HB3.out | exact HB.out | exact BL.out | exact BM.out | exact BW.out)).mono ?_
    rintro e w4 ⟨rfl, hb4⟩
    have B4 := hideT (B3.out.trans (hb4.mono B3.out.size))
    clear hb4
    go_wp2
    go_ret
    exact ⟨rfl, B4.out⟩
  | some R =>
    rw [(ofR_some hq).1, (ofR_some hq).2] at CA
    obtain ⟨hR, hop⟩ := ofD_mem hq
    subst hop
    have CB := (fun V (hV : Below w.heap.size w V) => hN (str R.name) V (by rw [str_size]; have := (row_let hR).2.1; omega) (hT.later hV))
    unfold namedV at CB
    rw [namedD_of hR] at CB
    simp only [Option.getD_some, Option.isSome_some, if_true] at CB
    have CA := hideT CA
    have CB := hideT CB
    have NE := hideT (row_let hR).2.2
    have ne0 : ¬ (str R.name).toList = [] := by
      intro hx
      have h := (row_let hR).2.2
      have hs := str_size R.name
      rw [ByteArray.toList_eq] at hx
      have h2 := congrArg List.length hx
      simp at h2
      simp [ByteArray.size, h2] at hs
      omega
    have NE0 := hideT ne0
    clear hq ho hR ne0
    go_enter Tryd.func6, Tryd.ntmps6
    go_wp2_with fail
    refine (CA.out _ (by first | exact Below.refl _ _ | exact BAA.out | exact BAB.out | exact BAC.out | exact BA.out | exact B1.out | exact B2.out | exact B3.out | exact HB2.out | exact HB3.out | exact HB.out | exact BL.out | exact BM.out | exact BW.out)).mono ?_
    rintro e wA ⟨a1A, c1A, a2A, c2A, rfl, _, _, hbA⟩
    obtain ⟨waA, hwaA⟩ : ∃ x, wA.alloc (.cells #[.int .u16 (R.op : Int), .string (str R.name), .int .u8 (R.imm : Int), .slice a1A R.fr.length c1A, .slice a2A R.to.length c2A, .int .i64 (R.bits : Int), .bool R.plain] 27) = x := ⟨_, rfl⟩
    have KAA := hideT (show waA.heap[wA.heap.size]? = some (.cells #[.int .u16 (R.op : Int), .string (str R.name), .int .u8 (R.imm : Int), .slice a1A R.fr.length c1A, .slice a2A R.to.length c2A, .int .i64 (R.bits : Int), .bool R.plain] 27 (0, 0)) by rw [← hwaA]; exact heap_alloc_new wA _)
    have BAA := hideT (show Below w.heap.size w waA by rw [← hwaA]; exact hbA.alloc hbA.size _)
    have HWAA := hideT hwaA
    clear hwaA hbA
    dsimp only
    clear CA
    have z1 : waA.cell? ⟨wA.heap.size, 1, none⟩ = some (.string (str R.name)) := by simp [World.cell?, KAA.out]
    rw [← HWAA.out] at z1
    go_wp2_with fail
    rw [HWAA.out]
    refine (CB.out _ (by first | exact Below.refl _ _ | exact BAA.out | exact BAB.out | exact BAC.out | exact BA.out | exact B1.out | exact B2.out | exact B3.out | exact HB2.out | exact HB3.out | exact HB.out | exact BL.out | exact BM.out | exact BW.out)).mono ?_
    rintro e w3 ⟨rfl, hb3⟩
    have z0 : w3.cell? ⟨wA.heap.size, 0, none⟩ = some (.int .u16 (R.op : Int)) := by
      have := (hb3.block _ (Array.getElem?_eq_some_iff.1 KAA.out).1).trans KAA.out
      simp [World.cell?, this]
    have z1 : w3.cell? ⟨wA.heap.size, 1, none⟩ = some (.string (str R.name)) := by
      have := (hb3.block _ (Array.getElem?_eq_some_iff.1 KAA.out).1).trans KAA.out
      simp [World.cell?, this]
    have B3 := hideT (BAA.out.trans (hb3.mono BAA.out.size))
    clear hb3 CB KAA
    generalize str R.name = s at *
    have ne0 := NE0.out
    dsimp only
    go_wp2_with fail
    refine (CW.out _ (by first | exact Below.refl _ _ | exact BAA.out | exact BAB.out | exact BAC.out | exact BA.out | exact B1.out | exact B2.out | exact B3.out | exact HB2.out | exact HB3.out | exact HB.out | exact BL.out | exact BM.out | exact BW.out)).mono ?_
    rintro e w4 ⟨rfl, hb4⟩
    have B4 := hideT (B3.out.trans (hb4.mono B3.out.size))
    clear hb4 ne0
    go_wp2
    go_ret
    exact ⟨by simp [List.isEmpty_eq_false_iff.2 NE0.out], B4.out⟩

theorem pages_all : (rowsD.all fun r => decide (r.op < 256) || (decide (64512 ≤ r.op) && decide (r.op ≤ 64529)) || (decide (64768 ≤ r.op) && decide (r.op ≤ 65023))) = true := by kernel_rfl

set_option maxHeartbeats 4000000 in
theorem unlike_end (hO : TOfOK) (o p : Nat) (Ra Rb : InfoD) (er fr : Int) (hok : Hid ((er = 0 ∧ fr = 0) → ((str Ra.name).toList == (str Rb.name).toList) = ((o : Int) == (p : Int)))) (w : World) (hT : STab w)
    (CA : Hid (∀ V, Below w.heap.size w V → Calls Tryd.prog 9 #[.int .u16 (o : Int)] V fun e w' => InfoQ Ra er V.heap.size V e w')) (CB : Hid (∀ V, Below w.heap.size w V → Calls Tryd.prog 9 #[.int .u16 (p : Int)] V fun e w' => InfoQ Rb fr V.heap.size V e w')) :
    Calls Tryd.prog 8 #[.int .u16 (o : Int), .int .u16 (p : Int)] w fun e w' => e = .returned (.bool true) ∧ Below w.heap.size w w' := by
  have CW := hideT (fun V (hV : Below w.heap.size w V) => works10_calls hO V (hT.later hV))
  by_cases h1 : er = 0
  · subst h1
    by_cases h2 : fr = 0
    · subst h2
      have NM := hok.out ⟨rfl, rfl⟩
      clear hok
      generalize hx : ((o : Int) == (p : Int)) = x at *
      have HX := hideT hx
      have HNM := hideT NM
      clear hx NM
      go_enter Tryd.func8, Tryd.ntmps8
      go_wp2_with fail
      refine (CA.out _ (by first | exact Below.refl _ _ | exact BAA.out | exact BAB.out | exact BAC.out | exact BA.out | exact B1.out | exact B2.out | exact B3.out | exact HB2.out | exact HB3.out | exact HB.out | exact BL.out | exact BM.out | exact BW.out)).mono ?_
      rintro e wA ⟨a1A, c1A, a2A, c2A, rfl, _, _, hbA⟩
      obtain ⟨waA, hwaA⟩ : ∃ x, wA.alloc (.cells #[.int .u16 (Ra.op : Int), .string (str Ra.name), .int .u8 (Ra.imm : Int), .slice a1A Ra.fr.length c1A, .slice a2A Ra.to.length c2A, .int .i64 (Ra.bits : Int), .bool Ra.plain] 27) = x := ⟨_, rfl⟩
      have KAA := hideT (show waA.heap[wA.heap.size]? = some (.cells #[.int .u16 (Ra.op : Int), .string (str Ra.name), .int .u8 (Ra.imm : Int), .slice a1A Ra.fr.length c1A, .slice a2A Ra.to.length c2A, .int .i64 (Ra.bits : Int), .bool Ra.plain] 27 (0, 0)) by rw [← hwaA]; exact heap_alloc_new wA _)
      have BAA := hideT (show Below w.heap.size w waA by rw [← hwaA]; exact hbA.alloc hbA.size _)
      have HWAA := hideT hwaA
      clear hwaA hbA
      dsimp only
      clear CA
      go_wp2_with fail
      rw [HWAA.out]
      refine (CB.out _ (by first | exact Below.refl _ _ | exact BAA.out | exact BAB.out | exact BAC.out | exact BA.out | exact B1.out | exact B2.out | exact B3.out | exact HB2.out | exact HB3.out | exact HB.out | exact BL.out | exact BM.out | exact BW.out)).mono ?_
      rintro e wB ⟨a1B, c1B, a2B, c2B, rfl, _, _, hbB⟩
      obtain ⟨waB, hwaB⟩ : ∃ x, wB.alloc (.cells #[.int .u16 (Rb.op : Int), .string (str Rb.name), .int .u8 (Rb.imm : Int), .slice a1B Rb.fr.length c1B, .slice a2B Rb.to.length c2B, .int .i64 (Rb.bits : Int), .bool Rb.plain] 27) = x := ⟨_, rfl⟩
      have KAB := hideT (show waB.heap[wB.heap.size]? = some (.cells #[.int .u16 (Rb.op : Int), .string (str Rb.name), .int .u8 (Rb.imm : Int), .slice a1B Rb.fr.length c1B, .slice a2B Rb.to.length c2B, .int .i64 (Rb.bits : Int), .bool Rb.plain] 27 (0, 0)) by rw [← hwaB]; exact heap_alloc_new wB _)
      have BSB := hideT (show Below waA.heap.size waA waB by rw [← hwaB]; exact hbB.alloc hbB.size _)
      have BAB := hideT (BAA.out.trans (BSB.out.mono BAA.out.size))
      have KAA := hideT ((BSB.out.block _ (Array.getElem?_eq_some_iff.1 KAA.out).1).trans KAA.out)
      have HWAB := hideT hwaB
      clear hwaB hbB
      dsimp only
      clear CB
      have z1 : waB.cell? ⟨wA.heap.size, 1, none⟩ = some (.string (str Ra.name)) := by simp [World.cell?, KAA.out]
      have z2 : waB.cell? ⟨wB.heap.size, 1, none⟩ = some (.string (str Rb.name)) := by simp [World.cell?, KAB.out]
      rw [← HWAB.out] at z1 z2
      have hnm := HNM.out
      have hx := HX.out
      go_wp2_with fail
      rw [HWAB.out]
      refine (CW.out _ (by first | exact Below.refl _ _ | exact BAA.out | exact BAB.out | exact BAC.out | exact BA.out | exact B1.out | exact B2.out | exact B3.out | exact HB2.out | exact HB3.out | exact HB.out | exact BL.out | exact BM.out | exact BW.out)).mono ?_
      rintro e w4 ⟨rfl, hb4⟩
      have B4 := hideT (BAB.out.trans (hb4.mono BAB.out.size))
      clear hb4
      go_wp2
      go_ret
      exact ⟨rfl, B4.out⟩
    · have t : (fr != 0) = true := by simp [h2]
      clear hok h2
      go_enter Tryd.func8, Tryd.ntmps8
      go_wp2_with fail
      refine (CA.out _ (by first | exact Below.refl _ _ | exact BAA.out | exact BAB.out | exact BAC.out | exact BA.out | exact B1.out | exact B2.out | exact B3.out | exact HB2.out | exact HB3.out | exact HB.out | exact BL.out | exact BM.out | exact BW.out)).mono ?_
      rintro e wA ⟨a1A, c1A, a2A, c2A, rfl, _, _, hbA⟩
      obtain ⟨waA, hwaA⟩ : ∃ x, wA.alloc (.cells #[.int .u16 (Ra.op : Int), .string (str Ra.name), .int .u8 (Ra.imm : Int), .slice a1A Ra.fr.length c1A, .slice a2A Ra.to.length c2A, .int .i64 (Ra.bits : Int), .bool Ra.plain] 27) = x := ⟨_, rfl⟩
      have KAA := hideT (show waA.heap[wA.heap.size]? = some (.cells #[.int .u16 (Ra.op : Int), .string (str Ra.name), .int .u8 (Ra.imm : Int), .slice a1A Ra.fr.length c1A, .slice a2A Ra.to.length c2A, .int .i64 (Ra.bits : Int), .bool Ra.plain] 27 (0, 0)) by rw [← hwaA]; exact heap_alloc_new wA _)
      have BAA := hideT (show Below w.heap.size w waA by rw [← hwaA]; exact hbA.alloc hbA.size _)
      have HWAA := hideT hwaA
      clear hwaA hbA
      dsimp only
      clear CA
      go_wp2_with fail
      rw [HWAA.out]
      refine (CB.out _ (by first | exact Below.refl _ _ | exact BAA.out | exact BAB.out | exact BAC.out | exact BA.out | exact B1.out | exact B2.out | exact B3.out | exact HB2.out | exact HB3.out | exact HB.out | exact BL.out | exact BM.out | exact BW.out)).mono ?_
      rintro e wB ⟨a1B, c1B, a2B, c2B, rfl, _, _, hbB⟩
      obtain ⟨waB, hwaB⟩ : ∃ x, wB.alloc (.cells #[.int .u16 (Rb.op : Int), .string (str Rb.name), .int .u8 (Rb.imm : Int), .slice a1B Rb.fr.length c1B, .slice a2B Rb.to.length c2B, .int .i64 (Rb.bits : Int), .bool Rb.plain] 27) = x := ⟨_, rfl⟩
      have KAB := hideT (show waB.heap[wB.heap.size]? = some (.cells #[.int .u16 (Rb.op : Int), .string (str Rb.name), .int .u8 (Rb.imm : Int), .slice a1B Rb.fr.length c1B, .slice a2B Rb.to.length c2B, .int .i64 (Rb.bits : Int), .bool Rb.plain] 27 (0, 0)) by rw [← hwaB]; exact heap_alloc_new wB _)
      have BSB := hideT (show Below waA.heap.size waA waB by rw [← hwaB]; exact hbB.alloc hbB.size _)
      have BAB := hideT (BAA.out.trans (BSB.out.mono BAA.out.size))
      have KAA := hideT ((BSB.out.block _ (Array.getElem?_eq_some_iff.1 KAA.out).1).trans KAA.out)
      have HWAB := hideT hwaB
      clear hwaB hbB
      dsimp only
      clear CB
      go_wp2_with fail
      rw [HWAB.out]
      refine (CW.out _ (by first | exact Below.refl _ _ | exact BAA.out | exact BAB.out | exact BAC.out | exact BA.out | exact B1.out | exact B2.out | exact B3.out | exact HB2.out | exact HB3.out | exact HB.out | exact BL.out | exact BM.out | exact BW.out)).mono ?_
      rintro e w4 ⟨rfl, hb4⟩
      have B4 := hideT (BAB.out.trans (hb4.mono BAB.out.size))
      clear hb4
      go_wp2
      go_ret
      exact ⟨rfl, B4.out⟩
  · have t : (er != 0) = true := by simp [h1]
    clear hok h1
    go_enter Tryd.func8, Tryd.ntmps8
    go_wp2_with fail
    refine (CA.out _ (by first | exact Below.refl _ _ | exact BAA.out | exact BAB.out | exact BAC.out | exact BA.out | exact B1.out | exact B2.out | exact B3.out | exact HB2.out | exact HB3.out | exact HB.out | exact BL.out | exact BM.out | exact BW.out)).mono ?_
    rintro e wA ⟨a1A, c1A, a2A, c2A, rfl, _, _, hbA⟩
    obtain ⟨waA, hwaA⟩ : ∃ x, wA.alloc (.cells #[.int .u16 (Ra.op : Int), .string (str Ra.name), .int .u8 (Ra.imm : Int), .slice a1A Ra.fr.length c1A, .slice a2A Ra.to.length c2A, .int .i64 (Ra.bits : Int), .bool Ra.plain] 27) = x := ⟨_, rfl⟩
    have KAA := hideT (show waA.heap[wA.heap.size]? = some (.cells #[.int .u16 (Ra.op : Int), .string (str Ra.name), .int .u8 (Ra.imm : Int), .slice a1A Ra.fr.length c1A, .slice a2A Ra.to.length c2A, .int .i64 (Ra.bits : Int), .bool Ra.plain] 27 (0, 0)) by rw [← hwaA]; exact heap_alloc_new wA _)
    have BAA := hideT (show Below w.heap.size w waA by rw [← hwaA]; exact hbA.alloc hbA.size _)
    have HWAA := hideT hwaA
    clear hwaA hbA
    dsimp only
    clear CA
    go_wp2_with fail
    rw [HWAA.out]
    refine (CB.out _ (by first | exact Below.refl _ _ | exact BAA.out | exact BAB.out | exact BAC.out | exact BA.out | exact B1.out | exact B2.out | exact B3.out | exact HB2.out | exact HB3.out | exact HB.out | exact BL.out | exact BM.out | exact BW.out)).mono ?_
    rintro e wB ⟨a1B, c1B, a2B, c2B, rfl, _, _, hbB⟩
    obtain ⟨waB, hwaB⟩ : ∃ x, wB.alloc (.cells #[.int .u16 (Rb.op : Int), .string (str Rb.name), .int .u8 (Rb.imm : Int), .slice a1B Rb.fr.length c1B, .slice a2B Rb.to.length c2B, .int .i64 (Rb.bits : Int), .bool Rb.plain] 27) = x := ⟨_, rfl⟩
    have KAB := hideT (show waB.heap[wB.heap.size]? = some (.cells #[.int .u16 (Rb.op : Int), .string (str Rb.name), .int .u8 (Rb.imm : Int), .slice a1B Rb.fr.length c1B, .slice a2B Rb.to.length c2B, .int .i64 (Rb.bits : Int), .bool Rb.plain] 27 (0, 0)) by rw [← hwaB]; exact heap_alloc_new wB _)
    have BSB := hideT (show Below waA.heap.size waA waB by rw [← hwaB]; exact hbB.alloc hbB.size _)
    have BAB := hideT (BAA.out.trans (BSB.out.mono BAA.out.size))
    have KAA := hideT ((BSB.out.block _ (Array.getElem?_eq_some_iff.1 KAA.out).1).trans KAA.out)
    have HWAB := hideT hwaB
    clear hwaB hbB
    dsimp only
    clear CB
    go_wp2_with fail
    rw [HWAB.out]
    refine (CW.out _ (by first | exact Below.refl _ _ | exact BAA.out | exact BAB.out | exact BAC.out | exact BA.out | exact B1.out | exact B2.out | exact B3.out | exact HB2.out | exact HB3.out | exact HB.out | exact BL.out | exact BM.out | exact BW.out)).mono ?_
    rintro e w4 ⟨rfl, hb4⟩
    have B4 := hideT (BAB.out.trans (hb4.mono BAB.out.size))
    clear hb4
    go_wp2
    go_ret
    exact ⟨rfl, B4.out⟩
theorem opsUnlike_law (hO : TOfOK) (o p : Nat) (ho : o < 65536) (hp : p < 65536) (w : World) (hT : STab w) : Calls Tryd.prog 8 #[.int .u16 (o : Int), .int .u16 (p : Int)] w fun e w' => e = .returned (.bool true) ∧ Below w.heap.size w w' := by
  refine unlike_end hO o p (ofR o) (ofR p) (ofE o) (ofE p) ?_ w hT (hideT fun V (hV : Below w.heap.size w V) => (hO o V ho (hT.later hV)).mono fun e w' h => h.q) (hideT fun V (hV : Below w.heap.size w V) => (hO p V hp (hT.later hV)).mono fun e w' h => h.q)
  refine hideT fun ⟨h1, h2⟩ => ?_
  cases hq : ofD o with
  | none => rw [(ofR_none hq).2] at h1; cases h1
  | some Ra =>
    cases hr : ofD p with
    | none => rw [(ofR_none hr).2] at h2; cases h2
    | some Rb =>
      rw [(ofR_some hq).1, (ofR_some hr).1]
      obtain ⟨ha, hoa⟩ := ofD_mem hq
      obtain ⟨hb, hob⟩ := ofD_mem hr
      rw [Bool.eq_iff_iff, beq_iff_eq, beq_iff_eq]
      constructor
      · intro h
        have := row_unlike ha hb (toList_injB h)
        subst this
        omega
      · intro h
        have h : o = p := by omega
        subst h
        rw [hq] at hr
        injection hr with hr
        rw [hr]
end Go.Proofs.YthggbimnjneeaaaDoor
