/-
  The document's 'Letter' and 'bytes'.
-/
import Derived.Test.YthillphedjjhjabDoorNamePutWalk
set_option linter.unusedVariables false
namespace Go.Proofs.YthillphedjjhjabDoor
open Go.RowKit

/-- The slice that the document's 'bytes' makes, and its world. -/
def BytesPost (l : List Int) (w : World) (e : Ending) (w' : World) : Prop :=
  e = .returned (.slice (some ⟨w.heap.size, 0, none⟩) l.length l.length) ∧ w' = w.alloc (.cells (l.map (Value.int .u8)).toArray 5)

end Go.Proofs.YthillphedjjhjabDoor
