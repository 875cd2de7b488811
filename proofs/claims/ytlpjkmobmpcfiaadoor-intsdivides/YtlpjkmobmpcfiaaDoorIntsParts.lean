/-
  The small functions of ints, and the document's: most, cut, worth, least, greatest, hold; Most, Fits, Width, Worth, Number.
-/
import Derived.Test.YtlpjkmobmpcfiaaDoorIntsCount
import Derived.Test.YtlpjkmobmpcfiaaDoorIntsTabs
import Derived.WalkKit
import Derived.WalkLawsBesides
import Derived.Laws.BitsLemmas
import Derived.Laws.Bits64b
import Derived.Laws.Rows
set_option linter.unusedVariables false
set_option linter.unusedSimpArgs false
namespace Go.Proofs.YtlpjkmobmpcfiaaDoor
open Go.RowKit Ints

structure Hide (p : Prop) : Prop where out : p
theorem hide {p : Prop} (h : p) : Hide p := ⟨h⟩

def mo (w : Nat) : Int := 2 ^ w - 1
def lo (w : Nat) : Int := -(2 ^ (w - 1))
def hi (w : Nat) : Int := 2 ^ (w - 1) - 1
def cutI (w : Nat) (n : Int) : Int := n % 2 ^ w
/-- A number of the width. -/
def Of (w : Nat) (a : Int) : Prop := 0 ≤ a ∧ a < 2 ^ w

set_option maxHeartbeats 400000 in
theorem most_calls {w : Nat} (hw : IsW w) (W : World) :
    Calls Tryd.prog 27 #[.int .i64 (w : Int)] W fun e W' => e = .returned (.int .u64 (mo w)) ∧ W' = W := by
  rcases hw with rfl | rfl | rfl | rfl <;>
  · go_enter Tryd.func27, Tryd.ntmps27
    go_wp2
    go_ret
    exact ⟨rfl, rfl⟩

set_option maxHeartbeats 400000 in
theorem rmost_calls {w : Nat} (hw : IsW w) (W : World) :
    Calls Tryd.prog 34 #[.int .i64 (w : Int)] W fun e W' => e = .returned (.int .u64 (mo w)) ∧ W' = W := by
  rcases hw with rfl | rfl | rfl | rfl <;>
  · go_enter Tryd.func34, Tryd.ntmps34
    go_wp2
    go_ret
    exact ⟨rfl, rfl⟩

theorem and_mo {w : Nat} (hw : IsW w) (n : Int) (h0 : 0 ≤ n) (h1 : n < 18446744073709551616) : bits .and .u64 n (mo w) = cutI w n := by
  obtain ⟨a, rfl⟩ := Int.eq_ofNat_of_zero_le h0
  have e : mo w = ((2 ^ w - 1 : Nat) : Int) := by
    unfold mo
    have := Nat.two_pow_pos w
    rw [Int.natCast_sub (by omega)]; simp
  have hp : 2 ^ w ≤ 2 ^ 64 := Nat.pow_le_pow_right (by decide) hw.le
  have hq := Nat.two_pow_pos w
  rw [e, bits_and_u64_nat a _ (by omega) (by omega), Nat.and_two_pow_sub_one_eq_mod]
  unfold cutI
  simp

theorem half_mo {w : Nat} (hw : IsW w) : IntKind.u64.wrap ((mo w).tdiv 2) = hi w := by
  rcases hw with rfl | rfl | rfl | rfl <;> rfl
theorem wrap_hi {w : Nat} (hw : IsW w) : wrap64 (hi w) = hi w := by
  rcases hw with rfl | rfl | rfl | rfl <;> simp only [hi, lo, wrap64, Nat.reduceSub, Int.reducePow] <;> omega
theorem neg_hi {w : Nat} (hw : IsW w) : wrap64 (wrap64 (-hi w) - 1) = lo w := by
  rcases hw with rfl | rfl | rfl | rfl <;> simp only [hi, lo, wrap64, Nat.reduceSub, Int.reducePow] <;> omega
theorem xor_hi {w : Nat} (hw : IsW w) : bits .xor .i64 (-1) (hi w) = lo w := by
  rcases hw with rfl | rfl | rfl | rfl <;> rfl
theorem and_wrap {w : Nat} (hw : IsW w) (n : Int) : bits .and .u64 (IntKind.u64.wrap n) (mo w) = cutI w n := by
  rw [IntKind.wrap_u64, and_mo hw _ (by omega) (by omega)]
  rcases hw with rfl | rfl | rfl | rfl <;> simp only [cutI] <;> omega
theorem cut_wrap {w : Nat} (hw : IsW w) (n : Int) : cutI w (IntKind.u64.wrap n) = cutI w n := by
  rw [IntKind.wrap_u64]
  rcases hw with rfl | rfl | rfl | rfl <;> simp only [cutI] <;> omega

set_option maxHeartbeats 400000 in
theorem cut_calls {w : Nat} (hw : IsW w) (n : Int) (h0 : 0 ≤ n) (h1 : n < 18446744073709551616) (W : World) :
    Calls Tryd.prog 24 #[.int .i64 (w : Int), .int .u64 n] W fun e W' => e = .returned (.int .u64 (cutI w n)) ∧ W' = W := by
  have C := hide (most_calls hw)
  have E := and_mo hw n h0 h1
  go_enter Tryd.func24, Tryd.ntmps24
  go_wp2_with (with_reducible refine (C.out _).mono ?_; rintro e w1 ⟨rfl, rfl⟩)
  go_ret
  exact ⟨rfl, rfl⟩

theorem Of.lt64 {w : Nat} (hw : IsW w) {a : Int} (h : Of w a) : a < 18446744073709551616 := by
  obtain ⟨_, h1⟩ := h
  rcases hw with rfl | rfl | rfl | rfl <;> omega

set_option maxHeartbeats 400000 in
theorem worth_calls {w : Nat} (hw : IsW w) (a : Int) (ha : Of w a) (W : World) :
    Calls Tryd.prog 29 #[.int .i64 (w : Int), .int .u64 a] W fun e W' => e = .returned (.int .i64 (wo w a)) ∧ W' = W := by
  obtain ⟨h0, h1⟩ := ha
  rcases hw with rfl | rfl | rfl | rfl
  all_goals
    simp at h1
    go_enter Tryd.func29, Tryd.ntmps29
    go_wp2
    go_ret
    refine ⟨congrArg (fun z => Ending.returned (.int .i64 z)) ?_, rfl⟩
    skip
    simp only [wo, wrap64, Nat.reduceSub, Int.reducePow]
    omega

set_option maxHeartbeats 400000 in
theorem greatest_calls {w : Nat} (hw : IsW w) (W : World) :
    Calls Tryd.prog 48 #[.int .i64 (w : Int)] W fun e W' => e = .returned (.int .i64 (hi w)) ∧ W' = W := by
  have C := hide (most_calls hw)
  have E : (mo w / 2 + 9223372036854775808) % 18446744073709551616 - 9223372036854775808 = hi w := by
    rcases hw with rfl | rfl | rfl | rfl <;> rfl
  have E2 : mo w / 2 = hi w := by
    rcases hw with rfl | rfl | rfl | rfl <;> rfl
  go_enter Tryd.func48, Tryd.ntmps48
  go_wp2_with (with_reducible refine (C.out _).mono ?_; rintro e w1 ⟨rfl, rfl⟩)
  go_ret
  exact ⟨rfl, rfl⟩

set_option maxHeartbeats 400000 in
theorem least_calls {w : Nat} (hw : IsW w) (W : World) :
    Calls Tryd.prog 47 #[.int .i64 (w : Int)] W fun e W' => e = .returned (.int .i64 (lo w)) ∧ W' = W := by
  have C := hide (greatest_calls hw)
  have E := xor_hi hw
  go_enter Tryd.func47, Tryd.ntmps47
  go_wp2_with (with_reducible refine (C.out _).mono ?_; rintro e w1 ⟨rfl, rfl⟩)
  go_ret
  exact ⟨rfl, rfl⟩

def holdI (x l h : Int) : Int := min (max x l) h

set_option maxHeartbeats 400000 in
theorem hold_calls (x l h : Int) (W : World) :
    Calls Tryd.prog 46 #[.int .i64 x, .int .i64 l, .int .i64 h] W fun e W' => e = .returned (.int .i64 (holdI x l h)) ∧ W' = W := by
  go_enter Tryd.func46, Tryd.ntmps46
  go_wp2
  go_ret
  skip
  exact ⟨rfl, rfl⟩

def isW (w : Int) : Bool := w == 8 || w == 16 || w == 32 || w == 64

theorem width_calls (w : Int) (W : World) :
    Calls Tryd.prog 32 #[.int .i64 w] W fun e W' => e = .returned (.bool (isW w)) ∧ W' = W := by
  go_enter Tryd.func32, Tryd.ntmps32
  go_wp2
  all_goals go_ret
  all_goals (first | exact ⟨rfl, rfl⟩ | (simp_all [isW]; done))

set_option maxHeartbeats 400000 in
theorem rfits_calls {w : Nat} (hw : IsW w) (a : Int) (W : World) :
    Calls Tryd.prog 33 #[.int .i64 (w : Int), .int .u64 a] W fun e W' => e = .returned (.bool (decide (a ≤ mo w))) ∧ W' = W := by
  have C := hide (rmost_calls hw)
  go_enter Tryd.func33, Tryd.ntmps33
  go_wp2_with (with_reducible refine (C.out _).mono ?_; rintro e w1 ⟨rfl, rfl⟩)
  go_ret
  exact ⟨rfl, rfl⟩

set_option maxHeartbeats 400000 in
theorem rworth_calls {w : Nat} (hw : IsW w) (a : Int) (ha : Of w a) (W : World) :
    Calls Tryd.prog 44 #[.int .i64 (w : Int), .int .u64 a] W fun e W' => e = .returned (.int .i64 (wo w a)) ∧ W' = W := by
  obtain ⟨h0, h1⟩ := ha
  have C := hide (rmost_calls hw)
  have E := half_mo hw
  by_cases c : a ≤ hi w
  · have E2 : wrap64 a = wo w a := by
      rcases hw with rfl | rfl | rfl | rfl <;> simp [hi] at c <;> simp only [wo, wrap64, Nat.reduceSub, Int.reducePow] <;> omega
    go_enter Tryd.func44, Tryd.ntmps44
    go_wp2_with (with_reducible refine (C.out _).mono ?_; rintro e w1 ⟨rfl, rfl⟩)
    go_ret
    exact ⟨congrArg (fun z => Ending.returned (.int .i64 z)) E2, rfl⟩
  · have E2 : wrap64 (wrap64 (-wrap64 (IntKind.u64.wrap (mo w - a))) - 1) = wo w a := by
      rw [IntKind.wrap_u64]
      rcases hw with rfl | rfl | rfl | rfl <;> simp [hi] at c <;> simp at h1 <;> simp only [wo, mo, wrap64, Nat.reduceSub, Int.reducePow] <;> omega
    go_enter Tryd.func44, Tryd.ntmps44
    go_wp2_with (with_reducible refine (C.out _).mono ?_; rintro e w1 ⟨rfl, rfl⟩)
    go_ret
    exact ⟨congrArg (fun z => Ending.returned (.int .i64 z)) E2, rfl⟩

set_option maxHeartbeats 400000 in
theorem number_calls {w : Nat} (hw : IsW w) (n : Int) (W : World) :
    Calls Tryd.prog 45 #[.int .i64 (w : Int), .int .i64 n] W fun e W' => e = .returned (.int .u64 (cutI w n)) ∧ W' = W := by
  have C := hide (rmost_calls hw)
  have E := and_wrap hw n
  go_enter Tryd.func45, Tryd.ntmps45
  go_wp2_with (with_reducible refine (C.out _).mono ?_; rintro e w1 ⟨rfl, rfl⟩)
  go_ret
  exact ⟨rfl, rfl⟩

set_option maxHeartbeats 400000 in
theorem rgreatest_calls {w : Nat} (hw : IsW w) (W : World) :
    Calls Tryd.prog 50 #[.int .i64 (w : Int)] W fun e W' => e = .returned (.int .i64 (hi w)) ∧ W' = W := by
  have C := hide (rmost_calls hw)
  have E := half_mo hw
  have E2 := wrap_hi hw
  have E3 := neg_hi hw
  go_enter Tryd.func50, Tryd.ntmps50
  go_wp2_with (with_reducible refine (C.out _).mono ?_; rintro e w1 ⟨rfl, rfl⟩)
  go_ret
  exact ⟨congrArg (fun z => Ending.returned (.int .i64 z)) E2, rfl⟩

set_option maxHeartbeats 400000 in
theorem rleast_calls {w : Nat} (hw : IsW w) (W : World) :
    Calls Tryd.prog 49 #[.int .i64 (w : Int)] W fun e W' => e = .returned (.int .i64 (lo w)) ∧ W' = W := by
  have C := hide (rmost_calls hw)
  have E := half_mo hw
  have E2 := wrap_hi hw
  have E3 := neg_hi hw
  go_enter Tryd.func49, Tryd.ntmps49
  go_wp2_with (with_reducible refine (C.out _).mono ?_; rintro e w1 ⟨rfl, rfl⟩)
  go_ret
  skip
  exact ⟨congrArg (fun z => Ending.returned (.int .i64 z)) E3, rfl⟩
end Go.Proofs.YtlpjkmobmpcfiaaDoor
