/-
  The document's small functions of floats (genflo.py wrote it).
-/
import Derived.Test.YtgmakjmlkepfbabFloTwo
set_option linter.unusedVariables false
set_option linter.unusedSimpArgs false
namespace Go.Proofs.Ytgmakjmlkepfbab
open Go.RowKit Flo

theorem rung_lt63 {w : Nat} (hw : IsW w) (a : Nat) : rung (fm w) a < 9223372036854775808 := by
  have h : rung (fm w) a < signN w := rung_lt _ _
  have : signN w ≤ 9223372036854775808 := by rcases hw with rfl | rfl <;> decide
  omega

end Go.Proofs.Ytgmakjmlkepfbab
