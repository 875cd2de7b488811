/-
  The laws over the landed code: Two, One, Than, Lane, Masks.
-/
import Derived.Test.YtoihfmammmkloaaDoorVinCode1P
import Derived.Test.YtoihfmammmkloaaDoorVinCode2P
import Derived.Test.YtoihfmammmkloaaDoorVinTabsP
set_option linter.unusedVariables false
namespace Go.Proofs.YtoihfmammmkloaaDoor
open Go.RowKit Lan

theorem vtwo_t : VTwoOK Tabs := fun op w a b ho ha hb W hT => vtwo_code op w a b ho ha hb W hT.toWTabs
theorem vmask_t : VMaskOK Tabs := fun w a ha W hT => vmask_code w a ha W hT.toWTabs
theorem vall_t : VAllOK Tabs := fun w a ha W hT => vall_code w a ha W hT.toWTabs
end Go.Proofs.YtoihfmammmkloaaDoor
