/-
  The document's 'Name'; the walk of NameRows.
-/
import Derived.Test.YthillphedjjhjabDoorNameRowsWalk
set_option linter.unusedVariables false
namespace Go.Proofs.YthillphedjjhjabDoor
open Go.RowKit

theorem RowPost.one {l : List Int} {p : Int} {w w' : World} {e : Ending} (hb : Leb.Bytes l) (h : RowPost l p w e w') :
    Below w.heap.size w w' ∧ ∃ a c, e = .returned (.tuple #[.slice a (rowAt l p).1.length c, .int .i64 (rowAt l p).2.1, .int .i64 (rowAt l p).2.2]) ∧ Row w' a (rowAt l p).1.length c (rowAt l p).1 := by
  obtain ⟨h1, v, rfl, hown⟩ := h
  obtain ⟨a, c, hv, hr⟩ := own_rowB hown (rowAt_bytes l p hb)
  subst hv
  exact ⟨h1, a, c, rfl, hr⟩

end Go.Proofs.YthillphedjjhjabDoor
