/-
  The laws over the landed code: Two, One, Than, Lane.
-/
import Derived.Test.YtoihfmammmkloaaDoorVinCall1P
import Derived.Test.YtoihfmammmkloaaDoorVinLaws3P
set_option linter.unusedVariables false
namespace Go.Proofs.YtoihfmammmkloaaDoor
open Go.RowKit Lan

theorem vshift_t : VShiftOK Tabs := fun op w a n ho ha hn W hT => vshift_code op w a n ho ha hn W hT.toWTabs

theorem vintsTwo_calls (op : Nat) (_ : op < 2 ^ 8) (w : Int) (a : Nat × Nat) (ha : Vok a) (b : Nat × Nat) (hb : Vok b) (W : World) (hT : WTabs W) :
    Calls Tryd.prog 3 #[.int .u8 (op : Int), .int .i64 w, vecV a, vecV b] W fun e W' => e = .returned (.bool true) ∧ Below W.heap.size W W' :=
  vintsTwo_law like_w vtwo_code vmask_code op w a ha b hb W hT
theorem vintsOne_calls (op : Nat) (_ : op < 2 ^ 8) (w : Int) (a : Nat × Nat) (ha : Vok a) (n : Nat) (hn : n < 2 ^ 64) (W : World) (hT : Tabs W) :
    Calls Tryd.prog 4 #[.int .u8 (op : Int), .int .i64 w, vecV a, .int .u64 (n : Int)] W fun e W' => e = .returned (.bool true) ∧ Below W.heap.size W W' :=
  vintsOne_law like_t vtwo_t vmask_t vone_code vshift_t op w a ha n hn W hT
theorem vintsThan_calls (op : Nat) (_ : op < 2 ^ 8) (w : Int) (a : Nat × Nat) (ha : Vok a) (b : Nat × Nat) (hb : Vok b) (W : World) (hT : Tabs W) :
    Calls Tryd.prog 5 #[.int .u8 (op : Int), .int .i64 w, vecV a, vecV b] W fun e W' => e = .returned (.bool true) ∧ Below W.heap.size W W' :=
  vintsThan_law like_t vtwo_t vmask_t vthan_code vall_t op w a ha b hb W hT
theorem vintsLane_calls (op : Nat) (_ : op < 2 ^ 8) (n : Nat) (_ : n < 2 ^ 8) (a : Nat × Nat) (ha : Vok a) (b : Nat × Nat) (hb : Vok b) (i : Int) (W : World) (hT : WTabs W) :
    Calls Tryd.prog 8 #[.int .u8 (op : Int), .int .u8 (n : Int), vecV a, vecV b, .int .i64 i] W fun e W' => e = .returned (.bool true) ∧ Below W.heap.size W W' :=
  vintsLane_law like_w vtwo_code vmask_code op n a ha b hb i W hT
end Go.Proofs.YtoihfmammmkloaaDoor
