/-
  OpsOf, OpsNamed, OpsBack, OpsPages, OpsUnlike (genopslaw.py wrote it).
-/
import Derived.Test.YthggbimnjneeaabDoorOpsAsk
set_option linter.unusedVariables false
set_option maxRecDepth 100000
set_option linter.unusedSimpArgs false
namespace Go.Proofs.YthggbimnjneeaabDoor
open Go.RowKit Opp

theorem wf_nat16 {x : Int} (h : (Lit.int .u16 x).wf = true) : ∃ n : Nat, x = n ∧ n < 65536 := by
  simp [Lit.wf, IntKind.min, IntKind.max, IntKind.bits, IntKind.signed] at h
  exact ⟨x.toNat, by omega, by omega⟩
theorem toList_injB {a b : ByteArray} (h : a.toList = b.toList) : a = b := by
  rw [ByteArray.toList_eq, ByteArray.toList_eq] at h
  exact ByteArray.ext (Array.ext' h)

theorem pages_all : (rowsD.all fun r => decide (r.op < 256) || (decide (64512 ≤ r.op) && decide (r.op ≤ 64529)) || (decide (64768 ≤ r.op) && decide (r.op ≤ 65023))) = true := by kernel_rfl

set_option maxHeartbeats 4000000 in
theorem opsPages_law (hO : TOfOK) (o : Nat) (ho : o < 65536) (w : World) (hT : STab w) : Calls Tryd.prog 3 #[.int .u16 (o : Int)] w fun e w' => e = .returned (.bool true) ∧ Below w.heap.size w w' := by
  have CA := (fun V (hV : Below w.heap.size w V) => (hO o V ho (hT.later hV)).mono fun e w' h => h.q)
  have CW := hideT (fun V (hV : Below w.heap.size w V) => works10_calls hO V (hT.later hV))
  cases hq : ofD o with
  | none =>
    rw [(ofR_none hq).1, (ofR_none hq).2] at CA
    have CA := hideT CA
    clear hq ho
    go_enter Tryd.func3, Tryd.ntmps3
    go_wp2_with fail
    refine (CA.out _ (by first | exact Below.refl _ _ | exact BAA.out | exact BAB.out | exact BAC.out | exact BA.out | exact B1.out | exact B2.out | exact B3.out | exact HB2.out | exact HB3.out | exact HB.out | exact BL.out | exact BM.out | exact BW.out)).mono ?_
    rintro e wA ⟨a1A, c1A, a2A, c2A, rfl, _, _, hbA⟩
    obtain ⟨waA, hwaA⟩ : ∃ x, wA.alloc (.cells #[.int .u16 (zeroD.op : Int), .string (str zeroD.name), .int .u8 (zeroD.imm : Int), .slice a1A zeroD.fr.length c1A, .slice a2A zeroD.to.length c2A, .int .i64 (zeroD.bits : Int), .bool zeroD.plain] 27) = x := ⟨_, rfl⟩
    have KAA := hideT (show waA.heap[wA.heap.size]? = some (.cells #[.int .u16 (zeroD.op : Int), .string (str zeroD.name), .int .u8 (zeroD.imm : Int), .slice a1A zeroD.fr.length c1A, .slice a2A zeroD.to.length c2A, .int .i64 (zeroD.bits : Int), .bool zeroD.plain] 27 (0, 0)) by rw [← hwaA]; exact heap_alloc_new wA _)
    have BAA := hideT (show Below w.heap.size w waA by rw [← hwaA]; exact hbA.alloc hbA.size _)
    have HWAA := hideT hwaA
    clear hwaA hbA
    dsimp only
    clear CA
    go_wp2_with fail
    rw [HWAA.out]
    refine (CW.out _ (by first | exact Below.refl _ _ | exact BAA.out | exact BAB.out | exact BAC.out | exact BA.out | exact B1.out | exact B2.out | exact B3.out | exact HB2.out | exact HB3.out | exact HB.out | exact BL.out | exact BM.out | exact BW.out)).mono ?_
    rintro e w4 ⟨rfl, hb4⟩
    have B4 := hideT (BAA.out.trans (hb4.mono BAA.out.size))
    clear hb4
    go_wp2
    go_ret
    exact ⟨rfl, B4.out⟩
  | some R =>
    rw [(ofR_some hq).1, (ofR_some hq).2] at CA
    obtain ⟨hR, hop⟩ := ofD_mem hq
    have hp := List.all_eq_true.1 pages_all R hR
    rw [hop] at hp
    simp only [Bool.or_eq_true, Bool.and_eq_true, decide_eq_true_eq] at hp
    have CA := hideT CA
    clear hq ho hop hR
    rcases (show o < 256 ∨ (64512 ≤ o ∧ o ≤ 64529) ∨ (64768 ≤ o ∧ o ≤ 65023) by omega) with h | h | h
    all_goals
      have t1 : decide ((o : Int) < 256) = decide (o < 256) := by simp; omega
      have t2 : decide (64512 ≤ (o : Int)) = decide (64512 ≤ o) := by simp; omega
      have t3 : decide ((o : Int) ≤ 64529) = decide (o ≤ 64529) := by simp; omega
      have t4 : decide (64768 ≤ (o : Int)) = decide (64768 ≤ o) := by simp; omega
      have t5 : decide ((o : Int) ≤ 65023) = decide (o ≤ 65023) := by simp; omega
    · have u1 : decide (o < 256) = true := by simp; omega
      rw [u1] at t1
      clear hp h t2 t3 t4 t5
      go_enter Tryd.func3, Tryd.ntmps3
      go_wp2_with fail
      refine (CA.out _ (by first | exact Below.refl _ _ | exact BAA.out | exact BAB.out | exact BAC.out | exact BA.out | exact B1.out | exact B2.out | exact B3.out | exact HB2.out | exact HB3.out | exact HB.out | exact BL.out | exact BM.out | exact BW.out)).mono ?_
      rintro e wA ⟨a1A, c1A, a2A, c2A, rfl, _, _, hbA⟩
      obtain ⟨waA, hwaA⟩ : ∃ x, wA.alloc (.cells #[.int .u16 (R.op : Int), .string (str R.name), .int .u8 (R.imm : Int), .slice a1A R.fr.length c1A, .slice a2A R.to.length c2A, .int .i64 (R.bits : Int), .bool R.plain] 27) = x := ⟨_, rfl⟩
      have KAA := hideT (show waA.heap[wA.heap.size]? = some (.cells #[.int .u16 (R.op : Int), .string (str R.name), .int .u8 (R.imm : Int), .slice a1A R.fr.length c1A, .slice a2A R.to.length c2A, .int .i64 (R.bits : Int), .bool R.plain] 27 (0, 0)) by rw [← hwaA]; exact heap_alloc_new wA _)
      have BAA := hideT (show Below w.heap.size w waA by rw [← hwaA]; exact hbA.alloc hbA.size _)
      have HWAA := hideT hwaA
      clear hwaA hbA
      dsimp only
      clear CA
      go_wp2_with fail
      rw [HWAA.out]
      refine (CW.out _ (by first | exact Below.refl _ _ | exact BAA.out | exact BAB.out | exact BAC.out | exact BA.out | exact B1.out | exact B2.out | exact B3.out | exact HB2.out | exact HB3.out | exact HB.out | exact BL.out | exact BM.out | exact BW.out)).mono ?_
      rintro e w4 ⟨rfl, hb4⟩
      have B4 := hideT (BAA.out.trans (hb4.mono BAA.out.size))
      clear hb4
      go_wp2
      go_ret
      exact ⟨rfl, B4.out⟩
    · have u1 : decide (o < 256) = false := by simp; omega
      have u2 : decide (64512 ≤ o) = true := by simp; omega
      have u3 : decide (o ≤ 64529) = true := by simp; omega
      rw [u1] at t1
      rw [u2] at t2
      rw [u3] at t3
      clear hp h t4 t5
      go_enter Tryd.func3, Tryd.ntmps3
      go_wp2_with fail
      refine (CA.out _ (by first | exact Below.refl _ _ | exact BAA.out | exact BAB.out | exact BAC.out | exact BA.out | exact B1.out | exact B2.out | exact B3.out | exact HB2.out | exact HB3.out | exact HB.out | exact BL.out | exact BM.out | exact BW.out)).mono ?_
      rintro e wA ⟨a1A, c1A, a2A, c2A, rfl, _, _, hbA⟩
      obtain ⟨waA, hwaA⟩ : ∃ x, wA.alloc (.cells #[.int .u16 (R.op : Int), .string (str R.name), .int .u8 (R.imm : Int), .slice a1A R.fr.length c1A, .slice a2A R.to.length c2A, .int .i64 (R.bits : Int), .bool R.plain] 27) = x := ⟨_, rfl⟩
      have KAA := hideT (show waA.heap[wA.heap.size]? = some (.cells #[.int .u16 (R.op : Int), .string (str R.name), .int .u8 (R.imm : Int), .slice a1A R.fr.length c1A, .slice a2A R.to.length c2A, .int .i64 (R.bits : Int), .bool R.plain] 27 (0, 0)) by rw [← hwaA]; exact heap_alloc_new wA _)
      have BAA := hideT (show Below w.heap.size w waA by rw [← hwaA]; exact hbA.alloc hbA.size _)
      have HWAA := hideT hwaA
      clear hwaA hbA
      dsimp only
      clear CA
      go_wp2_with fail
      rw [HWAA.out]
      refine (CW.out _ (by first | exact Below.refl _ _ | exact BAA.out | exact BAB.out | exact BAC.out | exact BA.out | exact B1.out | exact B2.out | exact B3.out | exact HB2.out | exact HB3.out | exact HB.out | exact BL.out | exact BM.out | exact BW.out)).mono ?_
      rintro e w4 ⟨rfl, hb4⟩
      have B4 := hideT (BAA.out.trans (hb4.mono BAA.out.size))
      clear hb4
      go_wp2
      go_ret
      exact ⟨rfl, B4.out⟩
    · have u1 : decide (o < 256) = false := by simp; omega
      have u2 : decide (64512 ≤ o) = true := by simp; omega
      have u3 : decide (o ≤ 64529) = false := by simp; omega
      have u4 : decide (64768 ≤ o) = true := by simp; omega
      have u5 : decide (o ≤ 65023) = true := by simp; omega
      rw [u1] at t1
      rw [u2] at t2
      rw [u3] at t3
      rw [u4] at t4
      rw [u5] at t5
      clear hp h
      go_enter Tryd.func3, Tryd.ntmps3
      go_wp2_with fail
      refine (CA.out _ (by first | exact Below.refl _ _ | exact BAA.out | exact BAB.out | exact BAC.out | exact BA.out | exact B1.out | exact B2.out | exact B3.out | exact HB2.out | exact HB3.out | exact HB.out | exact BL.out | exact BM.out | exact BW.out)).mono ?_
      rintro e wA ⟨a1A, c1A, a2A, c2A, rfl, _, _, hbA⟩
      obtain ⟨waA, hwaA⟩ : ∃ x, wA.alloc (.cells #[.int .u16 (R.op : Int), .string (str R.name), .int .u8 (R.imm : Int), .slice a1A R.fr.length c1A, .slice a2A R.to.length c2A, .int .i64 (R.bits : Int), .bool R.plain] 27) = x := ⟨_, rfl⟩
      have KAA := hideT (show waA.heap[wA.heap.size]? = some (.cells #[.int .u16 (R.op : Int), .string (str R.name), .int .u8 (R.imm : Int), .slice a1A R.fr.length c1A, .slice a2A R.to.length c2A, .int .i64 (R.bits : Int), .bool R.plain] 27 (0, 0)) by rw [← hwaA]; exact heap_alloc_new wA _)
      have BAA := hideT (show Below w.heap.size w waA by rw [← hwaA]; exact hbA.alloc hbA.size _)
      have HWAA := hideT hwaA
      clear hwaA hbA
      dsimp only
      clear CA
      go_wp2_with fail
      rw [HWAA.out]
      refine (CW.out _ (by first | exact Below.refl _ _ | exact BAA.out | exact BAB.out | exact BAC.out | exact BA.out | exact B1.out | exact B2.out | exact B3.out | exact HB2.out | exact HB3.out | exact HB.out | exact BL.out | exact BM.out | exact BW.out)).mono ?_
      rintro e w4 ⟨rfl, hb4⟩
      have B4 := hideT (BAA.out.trans (hb4.mono BAA.out.size))
      clear hb4
      go_wp2
      go_ret
      exact ⟨rfl, B4.out⟩

end Go.Proofs.YthggbimnjneeaabDoor
