/-
  The document's Two, Than and None (genflo.py wrote it).
-/
import Derived.Test.YtgmakjmlkepfbabFloRefs
import Derived.Test.YtgmakjmlkepfbabFloThan
set_option linter.unusedVariables false
set_option linter.unusedSimpArgs false
namespace Go.Proofs.Ytgmakjmlkepfbab
open Go.RowKit Flo

def wdI (w : Int) : Bool := w == 32 || w == 64
def ftI (w : Int) (a : Nat) : Bool := w == 64 || decide (a ≤ 4294967295)
theorem okW_parts (w : Int) (a : Nat) : okW w a = (wdI w && ftI w a) := by
  unfold okW wdI ftI
  by_cases h : w = 32
  · subst h; rfl
  · by_cases h2 : w = 64
    · subst h2; rfl
    · have e1 : (w == 32) = false := by simp [h]
      have e2 : (w == 64) = false := by simp [h2]
      rw [e1, e2]; rfl

end Go.Proofs.Ytgmakjmlkepfbab
