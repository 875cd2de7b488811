/-
  The document's Val, list.
-/
import Derived.Test.YteacjhmbamcegabTypSmall
import Derived.Test.YteacjhmbamcegabRefReads
import Derived.Maps.AppendAt
set_option linter.unusedVariables false
set_option linter.unusedSimpArgs false
namespace Go.Proofs.Yteacjhmbamcegab
open Go.RowKit Typ

def triV (r : Int × Int × Int) : Value := .tuple #[.int .u8 r.1, .int .i64 r.2.1, .int .i64 r.2.2]

theorem valAt_bad {l : List Int} {p : Int} (h : p < 0 ∨ (l.length : Int) < p) : valAt l p = (0, 0, 2) := by unfold valAt; rw [if_pos h]
theorem valAt_end (l : List Int) : valAt l (l.length : Int) = (0, 0, 4) := by unfold valAt; rw [if_neg (by omega), if_pos (.inl rfl)]
theorem valAt_in {l : List Int} {q : Nat} (h : q < l.length) : valAt l (q : Int) = if isT (l[q]?.getD 0) then (l[q]?.getD 0, (q : Int) + 1, 0) else (0, 0, 4) := by
  unfold valAt
  rw [if_neg (by omega)]
  simp only [Int.toNat_natCast]
  cases isT (l[q]?.getD 0) with
  | true => rw [if_neg (by simp; omega)]; rfl
  | false => rw [if_pos (.inr rfl)]; rfl

end Go.Proofs.Yteacjhmbamcegab
