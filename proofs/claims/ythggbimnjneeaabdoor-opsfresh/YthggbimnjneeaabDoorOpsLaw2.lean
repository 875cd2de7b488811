/-
  OpsAll (genopsall.py wrote it).
-/
import Derived.Test.YthggbimnjneeaabDoorOpsLaw1
set_option linter.unusedVariables false
set_option maxRecDepth 100000
set_option linter.unusedSimpArgs false
namespace Go.Proofs.YthggbimnjneeaabDoor
open Go.RowKit Opp

theorem OwnO.shape {w : World} {b : Nat} {v : Value} {l : List Nat} (h : OwnO w b v l) (h0 : 0 < l.length) : ∃ g c, v = .slice (some ⟨g, 0, none⟩) l.length c ∧ b ≤ g ∧ (∀ i, i < l.length → w.cell? ⟨g, i, none⟩ = some (.int .u16 ((l[i]?.getD 0 : Nat) : Int))) ∧ (∀ i, w.frozen? ⟨g, i, none⟩ = false) := by
  obtain ⟨_, ⟨rfl, h1⟩ | ⟨g, cap, cur, rfl, hb, hblk, _⟩⟩ := id h
  · omega
  · refine ⟨g, cap, rfl, hb, fun i hi => ?_, fun i => frozen_of_row w g i _ _ hblk⟩
    rw [World.ownsRow.cellAt h i (by omega), List.getElem?_map, List.getElem?_eq_getElem hi]
    rfl
def thereL (l : List Nat) (o i : Nat) : Bool := decide (o ∈ l.take i)
theorem thereL_next {l : List Nat} {o i : Nat} (hi : i < l.length) : thereL l o (i + 1) = (thereL l o i || ((l[i]?.getD 0 : Nat) : Int) == (o : Int)) := by
  unfold thereL
  rw [List.take_add_one, List.getElem?_eq_getElem hi]
  simp only [Option.getD_some, Option.toList, List.mem_append, List.mem_singleton, Bool.decide_or]
  congr 1
  rw [Bool.eq_iff_iff, decide_eq_true_eq, beq_iff_eq]
  omega
theorem thereL_all (l : List Nat) (o n : Nat) (h : l.length ≤ n) : thereL l o n = decide (o ∈ l) := by
  unfold thereL
  rw [List.take_of_length_le h]
def thereB (o i : Nat) : Bool := thereL allOps o i
theorem there_next {o i : Nat} (hi : i < allOps.length) : thereB o (i + 1) = (thereB o i || ((allOps[i]?.getD 0 : Nat) : Int) == (o : Int)) := thereL_next hi
theorem there_all (o : Nat) : thereB o 435 = (ofD o).isSome := by
  show thereL allOps o 435 = _
  rw [thereL_all allOps o 435 (Nat.le_of_eq ops_len), Bool.eq_iff_iff, decide_eq_true_eq]
  exact mem_allOps o
theorem er_zero (o : Nat) : (ofE o == 0) = (ofD o).isSome := by
  unfold ofE
  cases (ofD o).isSome <;> rfl

end Go.Proofs.YthggbimnjneeaabDoor
