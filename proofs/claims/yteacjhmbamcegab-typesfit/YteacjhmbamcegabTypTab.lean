/-
  The document's Table.
-/
import Derived.Test.YteacjhmbamcegabTypGlob
set_option linter.unusedVariables false
set_option linter.unusedSimpArgs false
namespace Go.Proofs.Yteacjhmbamcegab
open Go.RowKit Typ

theorem limAt_e (l : List Int) (p : Int) : (limAt l p).2.2 = 0 ∨ (limAt l p).2.2 = 2 ∨ (limAt l p).2.2 = 4 := by
  unfold limAt
  split
  · exact .inr (.inl rfl)
  · split
    · exact .inr (.inr rfl)
    · split
      · exact .inr (.inr rfl)
      · split
        · exact .inl rfl
        · split
          · exact .inr (.inr rfl)
          · exact .inl rfl

end Go.Proofs.Yteacjhmbamcegab
