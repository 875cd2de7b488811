/-
  The laws over the landed code: Back, Dot, Sums.
-/
import Derived.Test.YtoihfmammmkloabDoorVinCall1P
import Derived.Test.YtoihfmammmkloabDoorVinCode3P
import Derived.Test.YtoihfmammmkloabDoorVinLaws2P
set_option linter.unusedVariables false
namespace Go.Proofs.YtoihfmammmkloabDoor
open Go.RowKit Lan

theorem vintsBack_calls (n : Nat) (_ : n < 2 ^ 8) (a : Nat × Nat) (ha : Vok a) (W : World) (hT : WTabs W) :
    Calls Tryd.prog 3 #[.int .u8 (n : Int), vecV a] W fun e W' => e = .returned (.bool true) ∧ Below W.heap.size W W' :=
  vintsBack_law like_w vtwo_code vmask_code vnar_code vwide_code n a ha W hT
theorem vintsDot_calls (a : Nat × Nat) (ha : Vok a) (b : Nat × Nat) (hb : Vok b) (W : World) (hT : WTabs W) :
    Calls Tryd.prog 5 #[vecV a, vecV b] W fun e W' => e = .returned (.bool true) ∧ Below W.heap.size W W' :=
  vintsDot_law like_w vtwo_code vmask_code vtimes_code vdot_code a ha b hb W hT
theorem vintsSums_calls (n : Nat) (_ : n < 2 ^ 8) (a : Nat × Nat) (ha : Vok a) (b : Nat × Nat) (hb : Vok b) (W : World) (hT : WTabs W) :
    Calls Tryd.prog 6 #[.int .u8 (n : Int), vecV a, vecV b] W fun e W' => e = .returned (.bool true) ∧ Below W.heap.size W W' :=
  vintsSums_law like_w vtwo_code vmask_code vpairs_code n a ha b hb W hT
end Go.Proofs.YtoihfmammmkloabDoor
