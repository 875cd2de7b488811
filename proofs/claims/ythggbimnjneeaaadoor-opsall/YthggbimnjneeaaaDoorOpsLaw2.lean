/-
  OpsAll (genopsall.py wrote it).
-/
import Derived.Test.YthggbimnjneeaaaDoorOpsLaw1
set_option linter.unusedVariables false
set_option maxRecDepth 100000
set_option linter.unusedSimpArgs false
namespace Go.Proofs.YthggbimnjneeaaaDoor
open Go.RowKit Opp

theorem OwnO.shape {w : World} {b : Nat} {v : Value} {l : List Nat} (h : OwnO w b v l) (h0 : 0 < l.length) : ∃ g c, v = .slice (some ⟨g, 0, none⟩) l.length c ∧ b ≤ g ∧ (∀ i, i < l.length → w.cell? ⟨g, i, none⟩ = some (.int .u16 ((l[i]?.getD 0 : Nat) : Int))) ∧ (∀ i, w.frozen? ⟨g, i, none⟩ = false) := by
  obtain ⟨_, ⟨rfl, h1⟩ | ⟨g, cap, cur, rfl, hb, hblk, _⟩⟩ := id h
  · omega
  · refine ⟨g, cap, rfl, hb, fun i hi => ?_, fun i => frozen_of_row w g i _ _ hblk⟩
    rw [World.ownsRow.cellAt h i (by omega), List.getElem?_map, List.getElem?_eq_getElem hi]
    rfl
def thereL (l : List Nat) (o i : Nat) : Bool := decide (o ∈ l.take i)
theorem thereL_next {l : List Nat} {o i : Nat} (hi : i < l.length) : thereL l o (i + 1) = (thereL l o i || ((l[i]?.getD 0 : Nat) : Int) == (o : Int)) := by
  unfold thereL
  rw [List.take_add_one, List.getElem?_eq_getElem hi]
  simp only [Option.getD_some, Option.toList, List.mem_append, List.mem_singleton, Bool.decide_or]
  congr 1
  rw [Bool.eq_iff_iff, decide_eq_true_eq, beq_iff_eq]
  omega
theorem thereL_all (l : List Nat) (o n : Nat) (h : l.length ≤ n) : thereL l o n = decide (o ∈ l) := by
  unfold thereL
  rw [List.take_of_length_le h]
def thereB (o i : Nat) : Bool := thereL allOps o i
theorem there_next {o i : Nat} (hi : i < allOps.length) : thereB o (i + 1) = (thereB o i || ((allOps[i]?.getD 0 : Nat) : Int) == (o : Int)) := thereL_next hi
theorem there_all (o : Nat) : thereB o 435 = (ofD o).isSome := by
  show thereL allOps o 435 = _
  rw [thereL_all allOps o 435 (Nat.le_of_eq ops_len), Bool.eq_iff_iff, decide_eq_true_eq]
  exact mem_allOps o
theorem er_zero (o : Nat) : (ofE o == 0) = (ofD o).isSome := by
  unfold ofE
  cases (ofD o).isSome <;> rfl

set_option maxRecDepth 100000 in
set_option maxHeartbeats 8000000 in
theorem opsAll_law (hO : TOfOK) (hA : TAllOK) (o : Nat) (ho : o < 65536) (w : World) (hT : STab w) : Calls Tryd.prog 5 #[.int .u16 (o : Int)] w fun e w' => e = .returned (.bool true) ∧ Below w.heap.size w w' := by
  have CL := hideT (fun V (hV : Below w.heap.size w V) => hA V (hT.later hV))
  have CA := (fun V (hV : Below w.heap.size w V) => (hO o V ho (hT.later hV)).mono fun e w' h => h.q)
  have CW := hideT (fun V (hV : Below w.heap.size w V) => works10_calls hO V (hT.later hV))
  have CA := hideT CA
  clear ho
  go_enter Tryd.func5, Tryd.ntmps5
  go_wp2_with fail
  refine (CL.out _ (by first | exact Below.refl _ _ | exact BAA.out | exact BAB.out | exact BAC.out | exact BA.out | exact B1.out | exact B2.out | exact B3.out | exact HB2.out | exact HB3.out | exact HB.out | exact BL.out | exact BM.out | exact BW.out)).mono ?_
  rintro e w1 ⟨v, rfl, hown, hb1⟩
  obtain ⟨g, c, rfl, hbg, hcell, _⟩ := hown.shape (by rw [ops_len]; decide)
  rw [ops_len]
  have B1 := hideT hb1
  have HC := hideT hcell
  clear hb1 hown hbg hcell CL
  dsimp only
  go_wp2_with fail
  go_loopw [5, 4] (fun x t wr => ∃ i : Nat, x = .int .i64 (i : Int) ∧ t = .bool (thereB o i) ∧ i ≤ 435 ∧ Below w1.heap.size w1 wr) (fun x _ _ => 435 - (intOf x).toNat)
  case atStart => exact ⟨0, rfl, rfl, by omega, Below.refl _ _⟩
  case round =>
    obtain ⟨i, rfl, rfl, hi, hr⟩ := hrel
    have HR := hideT hr
    clear hr
    by_cases c0 : i < 435
    · have z1 := cell_laterF HR.out (HC.out i (by rw [ops_len]; exact c0))
      have NX := hideT (there_next (o := o) (i := i) (by rw [ops_len]; exact c0))
      have ci : (i : Int) < 435 := by omega
      have HI := hideT c0
      obtain ⟨t, ht⟩ : ∃ t, thereB o i = t := ⟨_, rfl⟩
      rw [ht] at NX ⊢
      by_cases cz : i = 0
      · subst cz
        generalize allOps[0]?.getD 0 = b at *
        obtain ⟨eq, heq⟩ : ∃ x, ((b : Int) == (o : Int)) = x := ⟨_, rfl⟩
        rw [heq] at NX
        have HEQ := hideT heq
        clear c0 ht heq
        go_wp2
        go_quiet (fail)
        have heq := HEQ.out
        cases t with
        | true =>
          go_wp2
          go_roundw
          case rel => exact ⟨1, by go_num, by rw [NX.out]; rfl, by omega, below_drewNq HR.out _⟩
          case measure => simp [intOf]
        | false =>
          go_wp2
          go_roundw
          case rel => exact ⟨1, by go_num, by rw [NX.out]; rfl, by omega, below_drewNq HR.out _⟩
          case measure => simp [intOf]
      · obtain ⟨j, rfl⟩ : ∃ j, i = j + 1 := ⟨i - 1, by omega⟩
        have z0 := cell_laterF HR.out (HC.out j (by rw [ops_len]; omega))
        have hlt := rises_at ops_rise (i := j) (by rw [ops_len]; exact c0)
        generalize allOps[j]?.getD 0 = a at *
        generalize allOps[j + 1]?.getD 0 = b at *
        have t1 : decide ((b : Int) ≤ (a : Int)) = false := by simp; omega
        have t2 : decide (b ≤ a) = false := by simp; omega
        have t3 : decide ((0 : Int) < ((j + 1 : Nat) : Int)) = true := by simp <;> omega
        have t4 : decide ((0 : Int) < (j : Int) + 1) = true := by simp <;> omega
        have wj : wrap64 (((j + 1 : Nat) : Int) - 1) = (j : Int) := by unfold wrap64; omega
        have wj2 : wrap64 ((j : Int) + 1 - 1) = (j : Int) := by unfold wrap64; omega
        obtain ⟨eq, heq⟩ : ∃ x, ((b : Int) == (o : Int)) = x := ⟨_, rfl⟩
        rw [heq] at NX
        have HEQ := hideT heq
        have cj : (j : Int) < 435 := by omega
        clear c0 ht heq cz hlt
        go_wp2
        go_quiet (fail)
        have heq := HEQ.out
        cases t with
        | true =>
          go_wp2
          go_roundw
          case rel => exact ⟨j + 1 + 1, by go_num, by rw [NX.out]; rfl, by have := HI.out; omega, below_drewNq HR.out _⟩
          case measure => have := HI.out; simp [intOf]; omega
        | false =>
          go_wp2
          go_roundw
          case rel => exact ⟨j + 1 + 1, by go_num, by rw [NX.out]; rfl, by have := HI.out; omega, below_drewNq HR.out _⟩
          case measure => have := HI.out; simp [intOf]; omega
    · have hk : i = 435 := by omega
      subst hk
      rw [there_all]
      have ER := hideT (er_zero o)
      have BW := hideT (B1.out.trans (HR.out.mono B1.out.size))
      obtain ⟨t, ht⟩ : ∃ t, (ofD o).isSome = t := ⟨_, rfl⟩
      rw [ht] at ER ⊢
      generalize ofR o = R at *
      obtain ⟨er, her⟩ : ∃ x, ofE o = x := ⟨_, rfl⟩
      rw [her] at CA ER
      clear ht her c0 hi
      go_wp2_with fail
      refine (CA.out _ (by first | exact Below.refl _ _ | exact BAA.out | exact BAB.out | exact BAC.out | exact BA.out | exact B1.out | exact B2.out | exact B3.out | exact HB2.out | exact HB3.out | exact HB.out | exact BL.out | exact BM.out | exact BW.out)).mono ?_
      rintro e wA ⟨a1A, c1A, a2A, c2A, rfl, _, _, hbA⟩
      obtain ⟨waA, hwaA⟩ : ∃ x, wA.alloc (.cells #[.int .u16 (R.op : Int), .string (str R.name), .int .u8 (R.imm : Int), .slice a1A R.fr.length c1A, .slice a2A R.to.length c2A, .int .i64 (R.bits : Int), .bool R.plain] 27) = x := ⟨_, rfl⟩
      have KAA := hideT (show waA.heap[wA.heap.size]? = some (.cells #[.int .u16 (R.op : Int), .string (str R.name), .int .u8 (R.imm : Int), .slice a1A R.fr.length c1A, .slice a2A R.to.length c2A, .int .i64 (R.bits : Int), .bool R.plain] 27 (0, 0)) by rw [← hwaA]; exact heap_alloc_new wA _)
      have BAA := hideT (show Below w.heap.size w waA by rw [← hwaA]; exact (BW.out.trans (hbA.mono BW.out.size)).alloc (Nat.le_trans BW.out.size hbA.size) _)
      have HWAA := hideT hwaA
      clear hwaA hbA
      dsimp only
      clear CA
      have er0 := ER.out
      cases t with
      | true =>
        have e0 : er = 0 := by simpa using er0
        subst e0
        go_wp2_with fail
        rw [HWAA.out]
        refine (CW.out _ (by first | exact Below.refl _ _ | exact BAA.out | exact BAB.out | exact BAC.out | exact BA.out | exact B1.out | exact B2.out | exact B3.out | exact HB2.out | exact HB3.out | exact HB.out | exact BL.out | exact BM.out | exact BW.out)).mono ?_
        rintro e w4 ⟨rfl, hb4⟩
        have B4 := hideT (BAA.out.trans (hb4.mono BAA.out.size))
        clear hb4
        go_wp2
        go_ret
        exact ⟨rfl, B4.out⟩
      | false =>
        go_wp2_with fail
        rw [HWAA.out]
        refine (CW.out _ (by first | exact Below.refl _ _ | exact BAA.out | exact BAB.out | exact BAC.out | exact BA.out | exact B1.out | exact B2.out | exact B3.out | exact HB2.out | exact HB3.out | exact HB.out | exact BL.out | exact BM.out | exact BW.out)).mono ?_
        rintro e w4 ⟨rfl, hb4⟩
        have B4 := hideT (BAA.out.trans (hb4.mono BAA.out.size))
        clear hb4
        go_wp2
        go_ret
        exact ⟨rfl, B4.out⟩
end Go.Proofs.YthggbimnjneeaaaDoor
