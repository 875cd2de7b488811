/-
  floats.fit at the slices that its callers make.
-/
import Derived.Test.YtfahogbiekmdfabFloSmall
import Derived.Test.YtfahogbiekmdfabFloAns
set_option linter.unusedVariables false
set_option linter.unusedSimpArgs false
namespace Go.Proofs.Ytfahogbiekmdfab
open Go.RowKit Flo

/-- Is it a width that has these bits? -/
def okW (w : Int) (a : Nat) : Bool := w == 64 || (w == 32 && decide (a ≤ 4294967295))

theorem below_one (W : World) (o : Obj) : Below W.heap.size W (W.alloc o) := (Below.refl W.heap.size W).alloc (Nat.le_refl _) _
theorem cell_two0 (W : World) (x y : Value) (t : TypeId) : (W.alloc (.cells #[x, y] t)).cell? ⟨W.heap.size, 0, none⟩ = some x := by simp
theorem cell_two1 (W : World) (x y : Value) (t : TypeId) : (W.alloc (.cells #[x, y] t)).cell? ⟨W.heap.size, 1, none⟩ = some y := by simp
theorem cell_one0 (W : World) (x : Value) (t : TypeId) : (W.alloc (.cells #[x] t)).cell? ⟨W.heap.size, 0, none⟩ = some x := by simp

theorem okW_of {w a : Nat} (hw : IsW w) (ha : a < 2 ^ w) : okW w a = true := by
  rcases hw with rfl | rfl
  · unfold okW; simp; omega
  · rfl
theorem of_okW {w : Int} {a : Nat} (h64 : a < 2 ^ 64) (h : okW w a = true) : ∃ n : Nat, w = n ∧ IsW n ∧ a < 2 ^ n := by
  unfold okW at h
  simp only [Bool.or_eq_true, beq_iff_eq, Bool.and_eq_true, decide_eq_true_eq] at h
  rcases h with h | ⟨h, h2⟩
  · exact ⟨64, h, .inr rfl, h64⟩
  · exact ⟨32, h, .inl rfl, by omega⟩
end Go.Proofs.Ytfahogbiekmdfab
