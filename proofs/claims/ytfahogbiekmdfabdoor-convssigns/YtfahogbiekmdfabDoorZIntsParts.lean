/-
  The small functions of ints, and the document's: most, cut, worth, least, greatest, hold; Most, Fits, Width, Worth, Number.
-/
import Derived.Test.YtfahogbiekmdfabDoorIntsCount
import Derived.Test.YtfahogbiekmdfabDoorIntsTabs
import Derived.WalkKit
import Derived.WalkLawsBesides
import Derived.Laws.BitsLemmas
import Derived.Laws.Bits64b
import Derived.Laws.Rows
set_option linter.unusedVariables false
set_option linter.unusedSimpArgs false
namespace Go.Proofs.YtfahogbiekmdfabDoor.Z
open Go.RowKit Ints

structure Hide (p : Prop) : Prop where out : p
theorem hide {p : Prop} (h : p) : Hide p := ⟨h⟩

def mo (w : Nat) : Int := 2 ^ w - 1
def lo (w : Nat) : Int := -(2 ^ (w - 1))
def hi (w : Nat) : Int := 2 ^ (w - 1) - 1
def cutI (w : Nat) (n : Int) : Int := n % 2 ^ w
/-- A number of the width. -/
def Of (w : Nat) (a : Int) : Prop := 0 ≤ a ∧ a < 2 ^ w

set_option maxHeartbeats 400000 in
theorem most_calls {w : Nat} (hw : IsW w) (W : World) :
    Calls Tryd.prog 30 #[.int .i64 (w : Int)] W fun e W' => e = .returned (.int .u64 (mo w)) ∧ W' = W := by
  rcases hw with rfl | rfl | rfl | rfl <;>
  · go_enter Tryd.func30, Tryd.ntmps30
    go_wp2
    go_ret
    exact ⟨rfl, rfl⟩

theorem and_mo {w : Nat} (hw : IsW w) (n : Int) (h0 : 0 ≤ n) (h1 : n < 18446744073709551616) : bits .and .u64 n (mo w) = cutI w n := by
  obtain ⟨a, rfl⟩ := Int.eq_ofNat_of_zero_le h0
  have e : mo w = ((2 ^ w - 1 : Nat) : Int) := by
    unfold mo
    have := Nat.two_pow_pos w
    rw [Int.natCast_sub (by omega)]; simp
  have hp : 2 ^ w ≤ 2 ^ 64 := Nat.pow_le_pow_right (by decide) hw.le
  have hq := Nat.two_pow_pos w
  rw [e, bits_and_u64_nat a _ (by omega) (by omega), Nat.and_two_pow_sub_one_eq_mod]
  unfold cutI
  simp

theorem half_mo {w : Nat} (hw : IsW w) : IntKind.u64.wrap ((mo w).tdiv 2) = hi w := by
  rcases hw with rfl | rfl | rfl | rfl <;> rfl
theorem wrap_hi {w : Nat} (hw : IsW w) : wrap64 (hi w) = hi w := by
  rcases hw with rfl | rfl | rfl | rfl <;> simp only [hi, lo, wrap64, Nat.reduceSub, Int.reducePow] <;> omega
theorem neg_hi {w : Nat} (hw : IsW w) : wrap64 (wrap64 (-hi w) - 1) = lo w := by
  rcases hw with rfl | rfl | rfl | rfl <;> simp only [hi, lo, wrap64, Nat.reduceSub, Int.reducePow] <;> omega
theorem xor_hi {w : Nat} (hw : IsW w) : bits .xor .i64 (-1) (hi w) = lo w := by
  rcases hw with rfl | rfl | rfl | rfl <;> rfl
theorem and_wrap {w : Nat} (hw : IsW w) (n : Int) : bits .and .u64 (IntKind.u64.wrap n) (mo w) = cutI w n := by
  rw [IntKind.wrap_u64, and_mo hw _ (by omega) (by omega)]
  rcases hw with rfl | rfl | rfl | rfl <;> simp only [cutI] <;> omega
theorem cut_wrap {w : Nat} (hw : IsW w) (n : Int) : cutI w (IntKind.u64.wrap n) = cutI w n := by
  rw [IntKind.wrap_u64]
  rcases hw with rfl | rfl | rfl | rfl <;> simp only [cutI] <;> omega

set_option maxHeartbeats 400000 in
theorem cut_calls {w : Nat} (hw : IsW w) (n : Int) (h0 : 0 ≤ n) (h1 : n < 18446744073709551616) (W : World) :
    Calls Tryd.prog 28 #[.int .i64 (w : Int), .int .u64 n] W fun e W' => e = .returned (.int .u64 (cutI w n)) ∧ W' = W := by
  have C := hide (most_calls hw)
  have E := and_mo hw n h0 h1
  go_enter Tryd.func28, Tryd.ntmps28
  go_wp2_with (with_reducible refine (C.out _).mono ?_; rintro e w1 ⟨rfl, rfl⟩)
  go_ret
  exact ⟨rfl, rfl⟩

theorem Of.lt64 {w : Nat} (hw : IsW w) {a : Int} (h : Of w a) : a < 18446744073709551616 := by
  obtain ⟨_, h1⟩ := h
  rcases hw with rfl | rfl | rfl | rfl <;> omega

set_option maxHeartbeats 400000 in
theorem worth_calls {w : Nat} (hw : IsW w) (a : Int) (ha : Of w a) (W : World) :
    Calls Tryd.prog 14 #[.int .i64 (w : Int), .int .u64 a] W fun e W' => e = .returned (.int .i64 (wo w a)) ∧ W' = W := by
  obtain ⟨h0, h1⟩ := ha
  rcases hw with rfl | rfl | rfl | rfl
  all_goals
    simp at h1
    go_enter Tryd.func14, Tryd.ntmps14
    go_wp2
    go_ret
    refine ⟨congrArg (fun z => Ending.returned (.int .i64 z)) ?_, rfl⟩
    skip
    simp only [wo, wrap64, Nat.reduceSub, Int.reducePow]
    omega

def holdI (x l h : Int) : Int := min (max x l) h

def isW (w : Int) : Bool := w == 8 || w == 16 || w == 32 || w == 64

end Go.Proofs.YtfahogbiekmdfabDoor.Z
