/-
  The document's small functions of floats (genflo.py wrote it).
-/
import Derived.Test.YtfahogbiekmdfaaFloTwo
set_option linter.unusedVariables false
set_option linter.unusedSimpArgs false
namespace Go.Proofs.Ytfahogbiekmdfaa
open Go.RowKit Flo

set_option maxRecDepth 100000 in
set_option maxHeartbeats 1000000 in
theorem rsign_calls {w : Nat} (hw : IsW w) (W : World) :
    Calls Try.prog 61 #[.int .i64 (w : Int)] W fun e W' => e = .returned (.int .u64 (signN w : Int)) ∧ W' = W := by
  rcases hw with rfl | rfl <;>
  · go_enter Try.func61, Try.ntmps61
    go_wp2
    go_ret
    exact ⟨rfl, rfl⟩

set_option maxRecDepth 100000 in
set_option maxHeartbeats 1000000 in
theorem rNaN_calls {w : Nat} (hw : IsW w) (W : World) :
    Calls Try.prog 56 #[.int .i64 (w : Int)] W fun e W' => e = .returned (.int .u64 (nanN w : Int)) ∧ W' = W := by
  rcases hw with rfl | rfl <;>
  · go_enter Try.func56, Try.ntmps56
    go_wp2
    go_ret
    exact ⟨rfl, rfl⟩

set_option maxRecDepth 100000 in
set_option maxHeartbeats 1000000 in
theorem rendless_calls {w : Nat} (hw : IsW w) (W : World) :
    Calls Try.prog 62 #[.int .i64 (w : Int)] W fun e W' => e = .returned (.int .u64 (infN w : Int)) ∧ W' = W := by
  rcases hw with rfl | rfl <;>
  · go_enter Try.func62, Try.ntmps62
    go_wp2
    go_ret
    exact ⟨rfl, rfl⟩

set_option maxRecDepth 100000 in
set_option maxHeartbeats 1000000 in
theorem rIs_calls {w a : Nat} (hw : IsW w) (ha : a < 2 ^ w) (W : World) :
    Calls Try.prog 48 #[.int .i64 (w : Int), .int .u64 (a : Int)] W fun e W' => e = .returned (.bool (na w a)) ∧ W' = W := by
  have S := hide (rsign_calls hw)
  have T := hide (rendless_calls hw)
  have E := bits_andNot_sign hw ha
  clear ha hw
  go_enter Try.func48, Try.ntmps48
  go_wp2_with (first | ((with_reducible refine (S.out _).mono ?_); rintro e w1 ⟨rfl, rfl⟩) | ((with_reducible refine (T.out _).mono ?_); rintro e w1 ⟨rfl, rfl⟩))
  go_ret
  refine ⟨?_, rfl⟩
  unfold na
  simp

theorem rung_lt63 {w : Nat} (hw : IsW w) (a : Nat) : rung (fm w) a < 9223372036854775808 := by
  have h : rung (fm w) a < signN w := rung_lt _ _
  have : signN w ≤ 9223372036854775808 := by rcases hw with rfl | rfl <;> decide
  omega

end Go.Proofs.Ytfahogbiekmdfaa
