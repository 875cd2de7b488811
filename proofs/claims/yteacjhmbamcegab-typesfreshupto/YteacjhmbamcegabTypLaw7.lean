/-
  The law TypesPuts, over what is asked of types (genputs9.py wrote it).
-/
import Derived.Test.YteacjhmbamcegabTypPutE
import Derived.Test.YteacjhmbamcegabRefSame
set_option linter.unusedVariables false
set_option linter.unusedSimpArgs false
namespace Go.Proofs.Yteacjhmbamcegab
open Go.RowKit Typ

def TPutOK : Prop := ∀ (v1 v2 : Value) (l1 l2 : List Int) (w : World), RowT w v1 l1 → RowT w v2 l2 → Leb.Bytes l1 → Leb.Bytes l2 → l1.length ≤ 1048576 → l2.length ≤ 1048576 →
  Calls Try.prog 16 #[funcV v1 v2] w fun e w' => PutPost (putFunc l1 l2) w e w'
theorem same_own {w : World} {b : Nat} {v1 v2 : Value} {l : List Int} (h1 : OwnU w b v1 l) (h2 : OwnU w b v2 l) (hl : 1 ≤ l.length) (hy : Leb.Bytes l) :
    Calls Try.prog 20 #[v1, v2] w fun e w' => e = .returned (.bool true) ∧ Below w.heap.size w w' := by
  obtain ⟨g1, c1, rfl, _, r1⟩ := h1.row hl hy
  obtain ⟨g2, c2, rfl, _, r2⟩ := h2.row hl hy
  refine (same_calls' _ _ c1 c2 l.length l w r1 r2).mono ?_
  rintro e w' ⟨he, n, rfl⟩
  exact ⟨he, below_drewNq (Below.refl _ _) _⟩
theorem func_len (l1 l2 : List Int) : 1 ≤ (putFunc l1 l2).length := by simp [putFunc]
theorem lim_len (n x : Int) (b : Bool) : 1 ≤ (putLim n x b).length := by unfold putLim; split <;> simp
theorem bytes_cons {y : Int} {l : List Int} (h0 : 0 ≤ y) (h1 : y ≤ 255) (h : Leb.Bytes l) : Leb.Bytes (y :: l) := by
  intro i
  cases i with
  | zero => simp; omega
  | succ i => simpa using h i
theorem bytes_func {l1 l2 : List Int} (h1 : Leb.Bytes l1) (h2 : Leb.Bytes l2) (k1 : l1.length ≤ 1048576) (k2 : l2.length ≤ 1048576) : Leb.Bytes (putFunc l1 l2) :=
  bytes_cons (by decide) (by decide) (bytes_append (bytes_list h1 (by omega)) (bytes_list h2 (by omega)))
theorem bytes_lim {n x : Int} {b : Bool} (w0 : U32 n) (w1 : U32 x) : Leb.Bytes (putLim n x b) := by
  have h0 := w0.2
  have h1 := w1.2
  unfold putLim
  split
  · exact bytes_cons (by decide) (by decide) (bytes_append (bytes_putU w0.1 (by omega)) (bytes_putU w1.1 (by omega)))
  · exact bytes_cons (by decide) (by decide) (bytes_putU w0.1 (by omega))

def PutsJ (FV LV : Value) (A B : List Int) (wa : World) (d : Nat → Bool) (vs : List Value) (w : World) : Prop :=
  (d 0 = true → vs[0]?.getD undef = FV) ∧ (d 1 = true → OwnU w wa.heap.size (vs[1]?.getD undef) A) ∧ (d 2 = true → vs[2]?.getD undef = FV) ∧ (d 3 = true → OwnU w wa.heap.size (vs[3]?.getD undef) A) ∧ (d 4 = true → vs[4]?.getD undef = .bool true) ∧ (d 5 = true → vs[5]?.getD undef = .bool true) ∧ (d 6 = true → vs[6]?.getD undef = LV) ∧ (d 7 = true → OwnU w wa.heap.size (vs[7]?.getD undef) B) ∧ (d 8 = true → vs[8]?.getD undef = LV) ∧ (d 9 = true → OwnU w wa.heap.size (vs[9]?.getD undef) B) ∧ (d 10 = true → vs[10]?.getD undef = .bool true) ∧ (d 11 = true → vs[11]?.getD undef = .bool true) ∧ (d 12 = true → vs[12]?.getD undef = .bool true) ∧ (d 13 = true → vs[13]?.getD undef = .bool true) ∧ (d 14 = true → vs[14]?.getD undef = .bool true) ∧ (d 15 = true → vs[15]?.getD undef = .bool true) ∧ Below wa.heap.size wa w

end Go.Proofs.Yteacjhmbamcegab
