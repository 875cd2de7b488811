/-
  The laws over the landed code: Halves, Times.
-/
import Derived.Test.YtoihfmammmkloaaDoorVinCall1P
import Derived.Test.YtoihfmammmkloaaDoorVinCode3P
set_option linter.unusedVariables false
namespace Go.Proofs.YtoihfmammmkloaaDoor
open Go.RowKit Lan

theorem vintsHalves_calls (w : Int) (s h : Bool) (a : Nat × Nat) (ha : Vok a) (b : Nat × Nat) (hb : Vok b) (W : World) (hT : WTabs W) :
    Calls Tryd.prog 6 #[.int .i64 w, .bool s, .bool h, vecV a, vecV b] W fun e W' => e = .returned (.bool true) ∧ Below W.heap.size W W' :=
  vintsHalves_law like_w vtwo_code vmask_code vnar_code vwide_code w s h a ha b hb W hT
theorem vintsTimes_calls (w : Int) (s h : Bool) (a : Nat × Nat) (ha : Vok a) (b : Nat × Nat) (hb : Vok b) (W : World) (hT : WTabs W) :
    Calls Tryd.prog 7 #[.int .i64 w, .bool s, .bool h, vecV a, vecV b] W fun e W' => e = .returned (.bool true) ∧ Below W.heap.size W W' :=
  vintsTimes_law like_w vtwo_code vmask_code vtimes_code vpairs_code vdot_code w s h a ha b hb W hT
end Go.Proofs.YtoihfmammmkloaaDoor
