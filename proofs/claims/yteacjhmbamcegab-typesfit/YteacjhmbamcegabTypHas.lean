/-
  The document's Has.
-/
import Derived.Test.YteacjhmbamcegabTypSmall
set_option linter.unusedVariables false
set_option linter.unusedSimpArgs false
namespace Go.Proofs.Yteacjhmbamcegab
open Go.RowKit Typ

end Go.Proofs.Yteacjhmbamcegab
