/-
  The laws of vfloats over the landed code.
-/
import Derived.Test.YtpeckiaimellmaaDoorVfCodeP
import Derived.Test.YtpeckiaimellmaaDoorVfWholeP
set_option linter.unusedVariables false
namespace Go.Proofs.YtpeckiaimellmaaDoor
open Go.RowKit Lan

theorem vfloatsTwo_calls (op : Nat) (_ : op < 2 ^ 8) (w : Int) (a : Nat × Nat) (ha : Vok a) (b : Nat × Nat) (hb : Vok b) (W : World) (hT : WTabs W) :
    Calls Tryd.prog 3 #[.int .u8 (op : Int), .int .i64 w, vecV a, vecV b] W fun e W' => e = .returned (.bool true) ∧ Below W.heap.size W W' :=
  vfloatsTwo_law like_w ftwo_code op w a ha b hb W hT
theorem vfloatsOne_calls (op : Nat) (_ : op < 2 ^ 8) (w : Int) (a : Nat × Nat) (ha : Vok a) (W : World) (hT : WTabs W) :
    Calls Tryd.prog 4 #[.int .u8 (op : Int), .int .i64 w, vecV a] W fun e W' => e = .returned (.bool true) ∧ Below W.heap.size W W' :=
  vfloatsOne_law like_w ftwo_code fone_code op w a ha W hT
theorem vfloatsThan_calls (op : Nat) (_ : op < 2 ^ 8) (w : Int) (a : Nat × Nat) (ha : Vok a) (b : Nat × Nat) (hb : Vok b) (W : World) (hT : WTabs W) :
    Calls Tryd.prog 5 #[.int .u8 (op : Int), .int .i64 w, vecV a, vecV b] W fun e W' => e = .returned (.bool true) ∧ Below W.heap.size W W' :=
  vfloatsThan_law like_w ftwo_code fthan_code op w a ha b hb W hT
theorem vfloatsConvs_calls (w : Int) (s : Bool) (a : Nat × Nat) (ha : Vok a) (W : World) (hT : WTabs W) :
    Calls Tryd.prog 6 #[.int .i64 w, .bool s, vecV a] W fun e W' => e = .returned (.bool true) ∧ Below W.heap.size W W' :=
  vfloatsConvs_law like_w ftwo_code fheld_code fflt_code w s a ha W hT
theorem vfloatsWidths_calls (a : Nat × Nat) (ha : Vok a) (W : World) (hT : WTabs W) :
    Calls Tryd.prog 7 #[vecV a] W fun e W' => e = .returned (.bool true) ∧ Below W.heap.size W W' :=
  vfloatsWidths_law like_w ftwo_code fprom_code fdem_code a ha W hT
theorem vfloatsWhole_calls (s : Bool) (a : Nat × Nat) (ha : Vok a) (W : World) (hT : WTabs W) :
    Calls Tryd.prog 8 #[.bool s, vecV a] W fun e W' => e = .returned (.bool true) ∧ Below W.heap.size W W' :=
  vfloatsWhole_law like_w ftwo_code fheld_code fflt_code s a ha W hT
end Go.Proofs.YtpeckiaimellmaaDoor
