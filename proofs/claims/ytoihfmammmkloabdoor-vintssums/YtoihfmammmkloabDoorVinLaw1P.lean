/-
  The walks of the laws that hold each answer of vints against the document's, over contracts that are handed in.
-/
import Derived.Test.YtoihfmammmkloabDoorPkLan
set_option linter.unusedVariables false
set_option linter.unusedSimpArgs false
namespace Go.Proofs.YtoihfmammmkloabDoor
open Go.RowKit Lan

end Go.Proofs.YtoihfmammmkloabDoor
