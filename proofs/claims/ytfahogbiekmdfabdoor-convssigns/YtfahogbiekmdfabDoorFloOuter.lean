/-
  floats.outer (genflo.py wrote it).
-/
import Derived.Test.YtfahogbiekmdfabDoorFloArith
set_option linter.unusedVariables false
set_option linter.unusedSimpArgs false
namespace Go.Proofs.YtfahogbiekmdfabDoor
open Go.RowKit Flo

def ordN (w a b : Nat) : Option Ordering := if na w a || na w b then none else some (compare (place (fm w) a) (place (fm w) b))
theorem order_ord {w a b x y : Nat} (hw : IsW w) (hx : Wor w a x) (hy : Wor w b y) : FloatKind.f64.format.order x y = ordN w a b := by
  show Ieee.double.order x y = _
  unfold ordN
  cases ha : na w a
  · cases hb : na w b
    · rw [order_some hw hx hy ha hb]; rfl
    · rw [order_none hw hx hy (.inr hb)]; rfl
  · rw [order_none hw hx hy (.inl ha)]; rfl
theorem less_ord (w a b : Nat) : lessN w a b = (ordN w a b == some .lt) := by
  unfold lessN ordN
  cases na w a <;> cases na w b <;> simp [cmp_lt_iff] <;> (try rfl)
  exact cmp_lt_iff.symm
theorem more_ord (w a b : Nat) : lessN w b a = (ordN w a b == some .gt) := by
  unfold lessN ordN
  cases na w a <;> cases na w b <;> simp [cmp_gt_iff] <;> (try rfl)
  exact cmp_gt_iff.symm
theorem same_ord (w a b : Nat) : sameN w a b = (ordN w a b == some .eq) := by
  unfold sameN ordN
  cases na w a <;> cases na w b <;> simp [cmp_eq_iff] <;> (try rfl)
  exact cmp_eq_iff.symm
theorem ord_none {w a b : Nat} (h : ordN w a b = none) : na w a = true ∨ na w b = true := by
  unfold ordN at h
  cases ha : na w a <;> cases hb : na w b <;> simp [ha, hb] at h ⊢
theorem ord_some {w a b : Nat} {c : Ordering} (h : ordN w a b = some c) : na w a = false ∧ na w b = false := by
  unfold ordN at h
  cases ha : na w a <;> cases hb : na w b <;> simp [ha, hb] at h ⊢

theorem lt64 {w a : Nat} (hw : IsW w) (ha : a < 2 ^ w) : a < 18446744073709551616 := by have := pow_le hw; omega

end Go.Proofs.YtfahogbiekmdfabDoor
