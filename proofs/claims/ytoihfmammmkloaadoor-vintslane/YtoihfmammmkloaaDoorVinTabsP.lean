/-
  The tables that the laws of vints are given, as their walks ask for them.
-/
import Derived.Test.YtoihfmammmkloaaDoorVinLawsP
namespace Go.Proofs.YtoihfmammmkloaaDoor
open Go.RowKit Lan
theorem like_w : TabsLike WTabs := ⟨fun _ _ h hb => h.later hb, fun _ h => h⟩
theorem like_t : TabsLike Tabs := ⟨fun _ _ h hb => h.later hb, fun _ h => h.toWTabs⟩
end Go.Proofs.YtoihfmammmkloaaDoor
