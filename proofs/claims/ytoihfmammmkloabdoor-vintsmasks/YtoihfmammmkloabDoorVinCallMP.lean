/-
  The laws over the landed code: Masks.
-/
import Derived.Test.YtoihfmammmkloabDoorVinCall1P
import Derived.Test.YtoihfmammmkloabDoorVinLaws2P
set_option linter.unusedVariables false
namespace Go.Proofs.YtoihfmammmkloabDoor
open Go.RowKit Lan

theorem vintsMasks_calls (n : Nat) (_ : n < 2 ^ 8) (a : Nat × Nat) (ha : Vok a) (b : Nat × Nat) (hb : Vok b) (W : World) (hT : Tabs W) :
    Calls Tryd.prog 4 #[.int .u8 (n : Int), vecV a, vecV b] W fun e W' => e = .returned (.bool true) ∧ Below W.heap.size W W' :=
  vintsMasks_law like_t vtwo_t vmask_t vthan_code vall_t n a ha b hb W hT
end Go.Proofs.YtoihfmammmkloabDoor
