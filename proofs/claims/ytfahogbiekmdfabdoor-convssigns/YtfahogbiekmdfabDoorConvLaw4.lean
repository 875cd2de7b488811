/-
  width, of, None as the laws call them; ConvsHeld, ConvsBack, ConvsWhole.
-/
import Derived.Test.YtfahogbiekmdfabDoorConvLaw2
import Derived.Test.YtfahogbiekmdfabDoorConvFacts
import Derived.Test.YtfahogbiekmdfabDoorFloThan
set_option linter.unusedVariables false
set_option linter.unusedSimpArgs false
namespace Go.Proofs.YtfahogbiekmdfabDoor
open Go.RowKit Flo

def wd (n : Nat) : Nat := if n % 2 = 0 then 32 else 64
theorem wd_isW (n : Nat) : IsW (wd n) := by
  unfold wd IsW
  split <;> simp
theorem cut_lt (w a : Nat) : a % 2 ^ w < 2 ^ w := Nat.mod_lt _ (Nat.two_pow_pos w)

set_option maxRecDepth 100000 in
set_option maxHeartbeats 1000000 in
theorem lwidth_calls (n : Nat) (W : World) :
    Calls Tryd.prog 5 #[.int .u8 (n : Int)] W fun e W' => e = .returned (.int .i64 (wd n : Int)) ∧ W' = W := by
  have E : (n : Int).tmod 2 = ((n % 2 : Nat) : Int) := by rw [Int.tmod_eq_emod_of_nonneg (by omega)]; omega
  have E' : (n : Int) % 2 = ((n % 2 : Nat) : Int) := by omega
  unfold wd
  rcases (show n % 2 = 0 ∨ n % 2 = 1 by omega) with h | h
  all_goals
    rw [h] at E E'
    rw [h]
    clear h
    try simp only [show ((0 : Nat) : Int) = 0 from rfl, show ((1 : Nat) : Int) = 1 from rfl] at E E'
    go_enter Tryd.func5, Tryd.ntmps5
    go_wp2
    go_ret
    exact ⟨rfl, rfl⟩

set_option maxRecDepth 100000 in
set_option maxHeartbeats 1000000 in
theorem lof_calls {w : Nat} (hw : IsW w) (a : Nat) (ha : a < 2 ^ 64) (W : World) :
    Calls Tryd.prog 6 #[.int .i64 (w : Int), .int .u64 (a : Int)] W fun e W' => e = .returned (.int .u64 ((a % 2 ^ w : Nat) : Int)) ∧ W' = W := by
  rcases hw with rfl | rfl
  · have E2 : bits .and .u64 (a : Int) 4294967295 = ((a % 2 ^ 32 : Nat) : Int) := by
      have := u64_and_nat a 4294967295 (by omega) (by decide)
      rw [show (((4294967295 : Nat)) : Int) = 4294967295 from rfl] at this
      rw [this, show (4294967295 : Nat) = 2 ^ 32 - 1 by decide, Nat.and_two_pow_sub_one_eq_mod]
    generalize a % 2 ^ 32 = r at *
    clear ha
    go_enter Tryd.func6, Tryd.ntmps6
    go_wp2
    go_ret
    exact ⟨congrArg (fun z => Ending.returned (.int .u64 z)) (by first | exact E2 | rfl), rfl⟩
  · have E2 : bits .and .u64 (a : Int) 18446744073709551615 = ((a % 2 ^ 64 : Nat) : Int) := by
      have := u64_and_nat a 18446744073709551615 (by omega) (by decide)
      rw [show (((18446744073709551615 : Nat)) : Int) = 18446744073709551615 from rfl] at this
      rw [this, show (18446744073709551615 : Nat) = 2 ^ 64 - 1 by decide, Nat.and_two_pow_sub_one_eq_mod]
    generalize a % 2 ^ 64 = r at *
    clear ha
    go_enter Tryd.func6, Tryd.ntmps6
    go_wp2
    go_ret
    exact ⟨congrArg (fun z => Ending.returned (.int .u64 z)) (by first | exact E2 | rfl), rfl⟩

theorem ok_of {fr to a : Nat} (hf : IsW fr) (ht : IsW to) (ha : a < 2 ^ fr) : okC (fr : Int) (to : Int) a = true := by
  rcases hf with rfl | rfl <;> rcases ht with rfl | rfl <;> simp [okC, okW, isW] <;> omega
theorem cutF_of {fr to a : Nat} {sg : Bool} (hf : IsW fr) (ht : IsW to) (ha : a < 2 ^ fr) : cutF (fr : Int) (to : Int) sg a = trapN (cutN fr to sg a) := by
  unfold cutF
  rw [if_pos (ok_of hf ht ha)]
  simp
theorem heldF_of {fr to a : Nat} {sg : Bool} (hf : IsW fr) (ht : IsW to) (ha : a < 2 ^ fr) : heldF (fr : Int) (to : Int) sg a = ((cutN fr to sg a).1, 0) := by
  unfold heldF
  rw [if_pos (ok_of hf ht ha)]
  simp
theorem fltF_of {fr to a : Nat} {sg : Bool} (hf : IsW fr) (ht : IsW to) (ha : a < 2 ^ fr) : fltF (fr : Int) (to : Int) sg a = (fltN fr to sg a, 0) := by
  unfold fltF
  rw [if_pos (ok_of hf ht ha)]
  simp
end Go.Proofs.YtfahogbiekmdfabDoor
