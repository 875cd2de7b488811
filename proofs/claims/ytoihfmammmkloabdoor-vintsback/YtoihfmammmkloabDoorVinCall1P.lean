/-
  The laws over the landed code: Two, One, Than, Lane, Masks.
-/
import Derived.Test.YtoihfmammmkloabDoorVinCode1P
import Derived.Test.YtoihfmammmkloabDoorVinCode2P
import Derived.Test.YtoihfmammmkloabDoorVinTabsP
set_option linter.unusedVariables false
namespace Go.Proofs.YtoihfmammmkloabDoor
open Go.RowKit Lan

theorem vtwo_t : VTwoOK Tabs := fun op w a b ho ha hb W hT => vtwo_code op w a b ho ha hb W hT.toWTabs
theorem vmask_t : VMaskOK Tabs := fun w a ha W hT => vmask_code w a ha W hT.toWTabs
theorem vall_t : VAllOK Tabs := fun w a ha W hT => vall_code w a ha W hT.toWTabs
end Go.Proofs.YtoihfmammmkloabDoor
