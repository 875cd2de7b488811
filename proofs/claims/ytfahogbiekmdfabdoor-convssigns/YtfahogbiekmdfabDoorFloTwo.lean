/-
  floats.Two, operator by operator (genflo.py wrote it).
-/
import Derived.Test.YtfahogbiekmdfabDoorFloOuter
import Derived.Test.YtfahogbiekmdfabDoorFloFit
set_option linter.unusedVariables false
set_option linter.unusedSimpArgs false
namespace Go.Proofs.YtfahogbiekmdfabDoor
open Go.RowKit Flo

def pairV (p : Nat × Nat) : Value := .tuple #[.int .u64 (p.1 : Int), .int .i64 (p.2 : Int)]
def pairB (p : Bool × Nat) : Value := .tuple #[.bool p.1, .int .i64 (p.2 : Int)]

theorem two_none {op w a b : Nat} (h : op = 0 ∨ 9 < op) : two op w a b = (0, 2) := by
  unfold two
  split <;> first | omega | rfl

end Go.Proofs.YtfahogbiekmdfabDoor
