/-
  ZIntsParts, ZIntsFit, ZIntsSpec, ZIntsMoves.
-/
import Derived.Test.YtoihfmammmkloaaDoorIntsCountP
import Derived.Test.YtoihfmammmkloaaDoorPkLan
import Derived.WalkKit
import Derived.WalkLawsBesides
import Derived.Laws.BitsLemmas
import Derived.Laws.Bits64b
import Derived.Laws.Rows
/-
  The small functions of ints, and the document's: most, cut, worth, least, greatest, hold; Most, Fits, Width, Worth, Number.
-/
set_option linter.unusedVariables false
set_option linter.unusedSimpArgs false
namespace Go.Proofs.YtoihfmammmkloaaDoor.Z
open Go.RowKit Ints

structure Hide (p : Prop) : Prop where out : p
theorem hide {p : Prop} (h : p) : Hide p := ⟨h⟩

def mo (w : Nat) : Int := 2 ^ w - 1
def lo (w : Nat) : Int := -(2 ^ (w - 1))
def hi (w : Nat) : Int := 2 ^ (w - 1) - 1
def cutI (w : Nat) (n : Int) : Int := n % 2 ^ w
/-- A number of the width. -/
def Of (w : Nat) (a : Int) : Prop := 0 ≤ a ∧ a < 2 ^ w

set_option maxHeartbeats 400000 in
theorem most_calls {w : Nat} (hw : IsW w) (W : World) :
    Calls Tryd.prog 72 #[.int .i64 (w : Int)] W fun e W' => e = .returned (.int .u64 (mo w)) ∧ W' = W := by
  rcases hw with rfl | rfl | rfl | rfl <;>
  · go_enter Tryd.func72, Tryd.ntmps72
    go_wp2
    go_ret
    exact ⟨rfl, rfl⟩

set_option maxHeartbeats 400000 in
theorem rmost_calls {w : Nat} (hw : IsW w) (W : World) :
    Calls Tryd.prog 50 #[.int .i64 (w : Int)] W fun e W' => e = .returned (.int .u64 (mo w)) ∧ W' = W := by
  rcases hw with rfl | rfl | rfl | rfl <;>
  · go_enter Tryd.func50, Tryd.ntmps50
    go_wp2
    go_ret
    exact ⟨rfl, rfl⟩

theorem and_mo {w : Nat} (hw : IsW w) (n : Int) (h0 : 0 ≤ n) (h1 : n < 18446744073709551616) : bits .and .u64 n (mo w) = cutI w n := by
  obtain ⟨a, rfl⟩ := Int.eq_ofNat_of_zero_le h0
  have e : mo w = ((2 ^ w - 1 : Nat) : Int) := by
    unfold mo
    have := Nat.two_pow_pos w
    rw [Int.natCast_sub (by omega)]; simp
  have hp : 2 ^ w ≤ 2 ^ 64 := Nat.pow_le_pow_right (by decide) hw.le
  have hq := Nat.two_pow_pos w
  rw [e, bits_and_u64_nat a _ (by omega) (by omega), Nat.and_two_pow_sub_one_eq_mod]
  unfold cutI
  simp

theorem half_mo {w : Nat} (hw : IsW w) : IntKind.u64.wrap ((mo w).tdiv 2) = hi w := by
  rcases hw with rfl | rfl | rfl | rfl <;> rfl
theorem wrap_hi {w : Nat} (hw : IsW w) : wrap64 (hi w) = hi w := by
  rcases hw with rfl | rfl | rfl | rfl <;> simp only [hi, lo, wrap64, Nat.reduceSub, Int.reducePow] <;> omega
theorem neg_hi {w : Nat} (hw : IsW w) : wrap64 (wrap64 (-hi w) - 1) = lo w := by
  rcases hw with rfl | rfl | rfl | rfl <;> simp only [hi, lo, wrap64, Nat.reduceSub, Int.reducePow] <;> omega
theorem xor_hi {w : Nat} (hw : IsW w) : bits .xor .i64 (-1) (hi w) = lo w := by
  rcases hw with rfl | rfl | rfl | rfl <;> rfl
theorem and_wrap {w : Nat} (hw : IsW w) (n : Int) : bits .and .u64 (IntKind.u64.wrap n) (mo w) = cutI w n := by
  rw [IntKind.wrap_u64, and_mo hw _ (by omega) (by omega)]
  rcases hw with rfl | rfl | rfl | rfl <;> simp only [cutI] <;> omega
theorem cut_wrap {w : Nat} (hw : IsW w) (n : Int) : cutI w (IntKind.u64.wrap n) = cutI w n := by
  rw [IntKind.wrap_u64]
  rcases hw with rfl | rfl | rfl | rfl <;> simp only [cutI] <;> omega

set_option maxHeartbeats 400000 in
theorem cut_calls {w : Nat} (hw : IsW w) (n : Int) (h0 : 0 ≤ n) (h1 : n < 18446744073709551616) (W : World) :
    Calls Tryd.prog 69 #[.int .i64 (w : Int), .int .u64 n] W fun e W' => e = .returned (.int .u64 (cutI w n)) ∧ W' = W := by
  have C := hide (most_calls hw)
  have E := and_mo hw n h0 h1
  go_enter Tryd.func69, Tryd.ntmps69
  go_wp2_with (with_reducible refine (C.out _).mono ?_; rintro e w1 ⟨rfl, rfl⟩)
  go_ret
  exact ⟨rfl, rfl⟩

theorem Of.lt64 {w : Nat} (hw : IsW w) {a : Int} (h : Of w a) : a < 18446744073709551616 := by
  obtain ⟨_, h1⟩ := h
  rcases hw with rfl | rfl | rfl | rfl <;> omega

set_option maxHeartbeats 400000 in
theorem worth_calls {w : Nat} (hw : IsW w) (a : Int) (ha : Of w a) (W : World) :
    Calls Tryd.prog 74 #[.int .i64 (w : Int), .int .u64 a] W fun e W' => e = .returned (.int .i64 (wo w a)) ∧ W' = W := by
  obtain ⟨h0, h1⟩ := ha
  rcases hw with rfl | rfl | rfl | rfl
  all_goals
    simp at h1
    go_enter Tryd.func74, Tryd.ntmps74
    go_wp2
    go_ret
    refine ⟨congrArg (fun z => Ending.returned (.int .i64 z)) ?_, rfl⟩
    skip
    simp only [wo, wrap64, Nat.reduceSub, Int.reducePow]
    omega

set_option maxHeartbeats 400000 in
theorem greatest_calls {w : Nat} (hw : IsW w) (W : World) :
    Calls Tryd.prog 98 #[.int .i64 (w : Int)] W fun e W' => e = .returned (.int .i64 (hi w)) ∧ W' = W := by
  have C := hide (most_calls hw)
  have E : (mo w / 2 + 9223372036854775808) % 18446744073709551616 - 9223372036854775808 = hi w := by
    rcases hw with rfl | rfl | rfl | rfl <;> rfl
  have E2 : mo w / 2 = hi w := by
    rcases hw with rfl | rfl | rfl | rfl <;> rfl
  go_enter Tryd.func98, Tryd.ntmps98
  go_wp2_with (with_reducible refine (C.out _).mono ?_; rintro e w1 ⟨rfl, rfl⟩)
  go_ret
  exact ⟨rfl, rfl⟩

set_option maxHeartbeats 400000 in
theorem least_calls {w : Nat} (hw : IsW w) (W : World) :
    Calls Tryd.prog 97 #[.int .i64 (w : Int)] W fun e W' => e = .returned (.int .i64 (lo w)) ∧ W' = W := by
  have C := hide (greatest_calls hw)
  have E := xor_hi hw
  go_enter Tryd.func97, Tryd.ntmps97
  go_wp2_with (with_reducible refine (C.out _).mono ?_; rintro e w1 ⟨rfl, rfl⟩)
  go_ret
  exact ⟨rfl, rfl⟩

def holdI (x l h : Int) : Int := min (max x l) h

set_option maxHeartbeats 400000 in
theorem hold_calls (x l h : Int) (W : World) :
    Calls Tryd.prog 96 #[.int .i64 x, .int .i64 l, .int .i64 h] W fun e W' => e = .returned (.int .i64 (holdI x l h)) ∧ W' = W := by
  go_enter Tryd.func96, Tryd.ntmps96
  go_wp2
  go_ret
  skip
  exact ⟨rfl, rfl⟩

def isW (w : Int) : Bool := w == 8 || w == 16 || w == 32 || w == 64

theorem width_calls (w : Int) (W : World) :
    Calls Tryd.prog 37 #[.int .i64 w] W fun e W' => e = .returned (.bool (isW w)) ∧ W' = W := by
  go_enter Tryd.func37, Tryd.ntmps37
  go_wp2
  all_goals go_ret
  all_goals (first | exact ⟨rfl, rfl⟩ | (simp_all [isW]; done))

set_option maxHeartbeats 400000 in
theorem rfits_calls {w : Nat} (hw : IsW w) (a : Int) (W : World) :
    Calls Tryd.prog 79 #[.int .i64 (w : Int), .int .u64 a] W fun e W' => e = .returned (.bool (decide (a ≤ mo w))) ∧ W' = W := by
  have C := hide (rmost_calls hw)
  go_enter Tryd.func79, Tryd.ntmps79
  go_wp2_with (with_reducible refine (C.out _).mono ?_; rintro e w1 ⟨rfl, rfl⟩)
  go_ret
  exact ⟨rfl, rfl⟩

set_option maxHeartbeats 400000 in
theorem rworth_calls {w : Nat} (hw : IsW w) (a : Int) (ha : Of w a) (W : World) :
    Calls Tryd.prog 53 #[.int .i64 (w : Int), .int .u64 a] W fun e W' => e = .returned (.int .i64 (wo w a)) ∧ W' = W := by
  obtain ⟨h0, h1⟩ := ha
  have C := hide (rmost_calls hw)
  have E := half_mo hw
  by_cases c : a ≤ hi w
  · have E2 : wrap64 a = wo w a := by
      rcases hw with rfl | rfl | rfl | rfl <;> simp [hi] at c <;> simp only [wo, wrap64, Nat.reduceSub, Int.reducePow] <;> omega
    go_enter Tryd.func53, Tryd.ntmps53
    go_wp2_with (with_reducible refine (C.out _).mono ?_; rintro e w1 ⟨rfl, rfl⟩)
    go_ret
    exact ⟨congrArg (fun z => Ending.returned (.int .i64 z)) E2, rfl⟩
  · have E2 : wrap64 (wrap64 (-wrap64 (IntKind.u64.wrap (mo w - a))) - 1) = wo w a := by
      rw [IntKind.wrap_u64]
      rcases hw with rfl | rfl | rfl | rfl <;> simp [hi] at c <;> simp at h1 <;> simp only [wo, mo, wrap64, Nat.reduceSub, Int.reducePow] <;> omega
    go_enter Tryd.func53, Tryd.ntmps53
    go_wp2_with (with_reducible refine (C.out _).mono ?_; rintro e w1 ⟨rfl, rfl⟩)
    go_ret
    exact ⟨congrArg (fun z => Ending.returned (.int .i64 z)) E2, rfl⟩

set_option maxHeartbeats 400000 in
theorem number_calls {w : Nat} (hw : IsW w) (n : Int) (W : World) :
    Calls Tryd.prog 65 #[.int .i64 (w : Int), .int .i64 n] W fun e W' => e = .returned (.int .u64 (cutI w n)) ∧ W' = W := by
  have C := hide (rmost_calls hw)
  have E := and_wrap hw n
  go_enter Tryd.func65, Tryd.ntmps65
  go_wp2_with (with_reducible refine (C.out _).mono ?_; rintro e w1 ⟨rfl, rfl⟩)
  go_ret
  exact ⟨rfl, rfl⟩

set_option maxHeartbeats 400000 in
theorem rgreatest_calls {w : Nat} (hw : IsW w) (W : World) :
    Calls Tryd.prog 100 #[.int .i64 (w : Int)] W fun e W' => e = .returned (.int .i64 (hi w)) ∧ W' = W := by
  have C := hide (rmost_calls hw)
  have E := half_mo hw
  have E2 := wrap_hi hw
  have E3 := neg_hi hw
  go_enter Tryd.func100, Tryd.ntmps100
  go_wp2_with (with_reducible refine (C.out _).mono ?_; rintro e w1 ⟨rfl, rfl⟩)
  go_ret
  exact ⟨congrArg (fun z => Ending.returned (.int .i64 z)) E2, rfl⟩

set_option maxHeartbeats 400000 in
theorem rleast_calls {w : Nat} (hw : IsW w) (W : World) :
    Calls Tryd.prog 99 #[.int .i64 (w : Int)] W fun e W' => e = .returned (.int .i64 (lo w)) ∧ W' = W := by
  have C := hide (rmost_calls hw)
  have E := half_mo hw
  have E2 := wrap_hi hw
  have E3 := neg_hi hw
  go_enter Tryd.func99, Tryd.ntmps99
  go_wp2_with (with_reducible refine (C.out _).mono ?_; rintro e w1 ⟨rfl, rfl⟩)
  go_ret
  skip
  exact ⟨congrArg (fun z => Ending.returned (.int .i64 z)) E3, rfl⟩
end Go.Proofs.YtoihfmammmkloaaDoor.Z
/-
  ints.isWidth and ints.fit.
-/
set_option linter.unusedVariables false
set_option linter.unusedSimpArgs false
namespace Go.Proofs.YtoihfmammmkloaaDoor.Z
open Go.RowKit Ints

theorem isW_iff (w : Int) : isW w = true ↔ ∃ n : Nat, w = n ∧ IsW n := by
  unfold isW IsW
  simp only [Bool.or_eq_true, beq_iff_eq]
  constructor
  · rintro (((h | h) | h) | h)
    · exact ⟨8, h, by simp⟩
    · exact ⟨16, h, by simp⟩
    · exact ⟨32, h, by simp⟩
    · exact ⟨64, h, by simp⟩
  · rintro ⟨n, rfl, h⟩
    omega

set_option maxHeartbeats 1000000 in
theorem isWidth_calls (w : Int) (W : World) (hT : WTabs W) :
    Calls Tryd.prog 103 #[.int .i64 w] W fun e W' => e = .returned (.bool (isW w)) ∧ W' = W := by
  obtain ⟨t, fr, hg⟩ := hT.widths
  clear hT
  have i0 : ∀ w : World, (Instr.index 96 (.agg #[.int .i64 8, .int .i64 16, .int .i64 32, .int .i64 64]) (.int .i64 0)).run Tryd.prog w = .ok (.int .i64 8) w := fun _ => by kernel_rfl
  have i1 : ∀ w : World, (Instr.index 96 (.agg #[.int .i64 8, .int .i64 16, .int .i64 32, .int .i64 64]) (.int .i64 1)).run Tryd.prog w = .ok (.int .i64 16) w := fun _ => by kernel_rfl
  have i2 : ∀ w : World, (Instr.index 96 (.agg #[.int .i64 8, .int .i64 16, .int .i64 32, .int .i64 64]) (.int .i64 2)).run Tryd.prog w = .ok (.int .i64 32) w := fun _ => by kernel_rfl
  have i3 : ∀ w : World, (Instr.index 96 (.agg #[.int .i64 8, .int .i64 16, .int .i64 32, .int .i64 64]) (.int .i64 3)).run Tryd.prog w = .ok (.int .i64 64) w := fun _ => by kernel_rfl
  go_enter Tryd.func103, Tryd.ntmps103
  go_wp2_with (refine wpList_load_row rfl 96 _ rfl 1 rfl t _ fr _ hg under4 rfl (by kernel_rfl) ?_)
  go_loop [6] (fun x => ∃ k : Nat, x = .int .i64 (k : Int) ∧ k ≤ 4 ∧ (0 < k → w ≠ 8) ∧ (1 < k → w ≠ 16) ∧ (2 < k → w ≠ 32) ∧ (3 < k → w ≠ 64)) (fun x => (4 - (intOf x).toNat))
  case atStart => exact ⟨0, rfl, by omega, by omega, by omega, by omega, by omega⟩
  case round =>
    obtain ⟨k, rfl, hk, c0, c1, c2, c3⟩ := hrel
    rcases (show k = 0 ∨ k = 1 ∨ k = 2 ∨ k = 3 ∨ k = 4 by omega) with rfl | rfl | rfl | rfl | rfl
    all_goals simp at c0 c1 c2 c3
    · by_cases c : w = 8
      · subst c
        go_wp2
        go_ret
        exact ⟨rfl, rfl⟩
      · go_wp2
        exact ⟨⟨1, rfl, by omega, by omega, by omega, by omega, by omega⟩, by simp [intOf]⟩
    · by_cases c : w = 16
      · subst c
        go_wp2
        go_ret
        exact ⟨rfl, rfl⟩
      · go_wp2
        exact ⟨⟨2, rfl, by omega, by omega, by omega, by omega, by omega⟩, by simp [intOf]⟩
    · by_cases c : w = 32
      · subst c
        go_wp2
        go_ret
        exact ⟨rfl, rfl⟩
      · go_wp2
        exact ⟨⟨3, rfl, by omega, by omega, by omega, by omega, by omega⟩, by simp [intOf]⟩
    · by_cases c : w = 64
      · subst c
        go_wp2
        go_ret
        exact ⟨rfl, rfl⟩
      · go_wp2
        exact ⟨⟨4, rfl, by omega, by omega, by omega, by omega, by omega⟩, by simp [intOf]⟩
    · go_wp2
      go_ret
      refine ⟨?_, rfl⟩
      have : isW w = false := by
        unfold isW
        simp only [Bool.or_eq_false_iff, beq_eq_false_iff_ne, ne_eq]
        omega
      rw [this]; rfl

set_option maxHeartbeats 1000000 in
theorem fit_none (w : Int) (hw : isW w = false) (v : Value) (W : World) (hT : WTabs W) :
    Calls Tryd.prog 68 #[.int .i64 w, v] W fun e W' => e = .returned (.bool false) ∧ W' = W := by
  have C := hide (isWidth_calls w W hT)
  rw [hw] at C
  go_enter Tryd.func68, Tryd.ntmps68
  go_wp2_with (with_reducible refine (C.out).mono ?_; rintro e w1 ⟨rfl, rfl⟩)
  go_ret
  exact ⟨rfl, rfl⟩

set_option maxHeartbeats 1000000 in
theorem fit_two {w : Nat} (hw : IsW w) (g : Nat) (a b : Int) (W : World) (hT : WTabs W) (h0 : W.cell? ⟨g, 0, none⟩ = some (.int .u64 a)) (h1 : W.cell? ⟨g, 1, none⟩ = some (.int .u64 b)) :
    Calls Tryd.prog 68 #[.int .i64 (w : Int), .slice (some ⟨g, 0, none⟩) 2 2] W fun e W' => e = .returned (.bool (decide (a ≤ mo w) && decide (b ≤ mo w))) ∧ W' = W := by
  have C := hide (isWidth_calls w W hT)
  rw [(isW_iff w).2 ⟨w, rfl, hw⟩] at C
  have D := hide (most_calls hw)
  clear hT
  go_enter Tryd.func68, Tryd.ntmps68
  go_wp2_with (with_reducible refine (C.out).mono ?_; rintro e w1 ⟨rfl, rfl⟩)
  go_loop [12] (fun x => ∃ k : Nat, x = .int .i64 (k : Int) ∧ k ≤ 2 ∧ (0 < k → a ≤ mo w) ∧ (1 < k → b ≤ mo w)) (fun x => (2 - (intOf x).toNat))
  case atStart => exact ⟨0, rfl, by omega, by omega, by omega⟩
  case round =>
    obtain ⟨k, rfl, hk, c0, c1⟩ := hrel
    rcases (show k = 0 ∨ k = 1 ∨ k = 2 by omega) with rfl | rfl | rfl
    all_goals simp at c0 c1
    · by_cases c : a ≤ mo w
      · have c' : decide (a > mo w) = false := by simp; omega
        go_wp2_with (with_reducible refine (D.out _).mono ?_; rintro e w1 ⟨rfl, rfl⟩)
        exact ⟨⟨1, rfl, by omega, by omega, by omega⟩, by simp [intOf]⟩
      · have c' : decide (a > mo w) = true := by simp; omega
        have cf := hide (show (decide (a ≤ mo w) && decide (b ≤ mo w)) = false by rw [decide_eq_false c, Bool.false_and])
        go_wp2_with (with_reducible refine (D.out _).mono ?_; rintro e w1 ⟨rfl, rfl⟩)
        go_ret
        exact ⟨by rw [cf.out]; rfl, rfl⟩
    · by_cases c : b ≤ mo w
      · have c' : decide (b > mo w) = false := by simp; omega
        go_wp2_with (with_reducible refine (D.out _).mono ?_; rintro e w1 ⟨rfl, rfl⟩)
        exact ⟨⟨2, rfl, by omega, by omega, by omega⟩, by simp [intOf]⟩
      · have c' : decide (b > mo w) = true := by simp; omega
        have cf := hide (show (decide (a ≤ mo w) && decide (b ≤ mo w)) = false by rw [decide_eq_false c, Bool.and_false])
        go_wp2_with (with_reducible refine (D.out _).mono ?_; rintro e w1 ⟨rfl, rfl⟩)
        go_ret
        exact ⟨by rw [cf.out]; rfl, rfl⟩
    · go_wp2
      go_ret
      exact ⟨by simp [c0, c1], rfl⟩

set_option maxHeartbeats 1000000 in
theorem fit_one {w : Nat} (hw : IsW w) (g : Nat) (a : Int) (W : World) (hT : WTabs W) (h0 : W.cell? ⟨g, 0, none⟩ = some (.int .u64 a)) :
    Calls Tryd.prog 68 #[.int .i64 (w : Int), .slice (some ⟨g, 0, none⟩) 1 1] W fun e W' => e = .returned (.bool (decide (a ≤ mo w))) ∧ W' = W := by
  have C := hide (isWidth_calls w W hT)
  rw [(isW_iff w).2 ⟨w, rfl, hw⟩] at C
  have D := hide (most_calls hw)
  clear hT
  go_enter Tryd.func68, Tryd.ntmps68
  go_wp2_with (with_reducible refine (C.out).mono ?_; rintro e w1 ⟨rfl, rfl⟩)
  go_loop [12] (fun x => ∃ k : Nat, x = .int .i64 (k : Int) ∧ k ≤ 1 ∧ (0 < k → a ≤ mo w)) (fun x => (1 - (intOf x).toNat))
  case atStart => exact ⟨0, rfl, by omega, by omega⟩
  case round =>
    obtain ⟨k, rfl, hk, c0⟩ := hrel
    rcases (show k = 0 ∨ k = 1 by omega) with rfl | rfl
    all_goals simp at c0
    · by_cases c : a ≤ mo w
      · have c' : decide (a > mo w) = false := by simp; omega
        go_wp2_with (with_reducible refine (D.out _).mono ?_; rintro e w1 ⟨rfl, rfl⟩)
        exact ⟨⟨1, rfl, by omega, by omega⟩, by simp [intOf]⟩
      · have c' : decide (a > mo w) = true := by simp; omega
        go_wp2_with (with_reducible refine (D.out _).mono ?_; rintro e w1 ⟨rfl, rfl⟩)
        go_ret
        exact ⟨by simp [c], rfl⟩
    · go_wp2
      go_ret
      exact ⟨by simp [c0], rfl⟩

set_option maxHeartbeats 1000000 in
theorem fit_nil {w : Nat} (hw : IsW w) (W : World) (hT : WTabs W) :
    Calls Tryd.prog 68 #[.int .i64 (w : Int), .slice none 0 0] W fun e W' => e = .returned (.bool true) ∧ W' = W := by
  have C := hide (isWidth_calls w W hT)
  rw [(isW_iff w).2 ⟨w, rfl, hw⟩] at C
  clear hT
  go_enter Tryd.func68, Tryd.ntmps68
  go_wp2_with (with_reducible refine (C.out).mono ?_; rintro e w1 ⟨rfl, rfl⟩)
  go_loop [12] (fun x => x = .int .i64 0) (fun x => 0)
  case atStart => rfl
  case round =>
    subst hrel
    go_wp2
    go_ret
    exact ⟨rfl, rfl⟩
end Go.Proofs.YtoihfmammmkloaaDoor.Z
/-
  What the operators answer, as functions on whole numbers; 'fit' at the slices that its callers make.
-/
set_option linter.unusedVariables false
set_option linter.unusedSimpArgs false
namespace Go.Proofs.YtoihfmammmkloaaDoor.Z
open Go.RowKit Ints

theorem mo_ge {w : Nat} {a : Int} (h : Of w a) : a ≤ mo w := by unfold mo; have := h.2; omega
theorem of_mo {w : Nat} {a : Int} (h0 : 0 ≤ a) : a ≤ mo w ↔ Of w a := by unfold mo Of; omega

theorem below_two (W : World) (o : Obj) : Below W.heap.size W (W.alloc o) := (Below.refl W.heap.size W).alloc (Nat.le_refl _) _

theorem cell_two0 (W : World) (x y : Value) (t : TypeId) : (W.alloc (.cells #[x, y] t)).cell? ⟨W.heap.size, 0, none⟩ = some x := by simp
theorem cell_two1 (W : World) (x y : Value) (t : TypeId) : (W.alloc (.cells #[x, y] t)).cell? ⟨W.heap.size, 1, none⟩ = some y := by simp
theorem cell_one0 (W : World) (x : Value) (t : TypeId) : (W.alloc (.cells #[x] t)).cell? ⟨W.heap.size, 0, none⟩ = some x := by simp

def ok2 (w : Int) (a b : Int) : Bool := isW w && (decide (a ≤ mo w.toNat) && decide (b ≤ mo w.toNat))
def ok1 (w : Int) (a : Int) : Bool := isW w && decide (a ≤ mo w.toNat)

theorem fit2 (w : Int) (a b : Int) (W : World) (hT : WTabs W) :
    Calls Tryd.prog 68 #[.int .i64 w, .slice (some ⟨W.heap.size, 0, none⟩) 2 2] (W.alloc (.cells #[.int .u64 a, .int .u64 b] 23)) fun e W' => e = .returned (.bool (ok2 w a b)) ∧ W' = W.alloc (.cells #[.int .u64 a, .int .u64 b] 23) := by
  have hT' := hT.later (below_two W (.cells #[.int .u64 a, .int .u64 b] 23))
  unfold ok2
  cases h : isW w with
  | false => simpa using fit_none w h _ _ hT'
  | true =>
    obtain ⟨n, rfl, hn⟩ := (isW_iff w).1 h
    simpa using fit_two hn W.heap.size a b _ hT' (cell_two0 ..) (cell_two1 ..)

theorem fit1 (w : Int) (a : Int) (W : World) (hT : WTabs W) :
    Calls Tryd.prog 68 #[.int .i64 w, .slice (some ⟨W.heap.size, 0, none⟩) 1 1] (W.alloc (.cells #[.int .u64 a] 23)) fun e W' => e = .returned (.bool (ok1 w a)) ∧ W' = W.alloc (.cells #[.int .u64 a] 23) := by
  have hT' := hT.later (below_two W (.cells #[.int .u64 a] 23))
  unfold ok1
  cases h : isW w with
  | false => simpa using fit_none w h _ _ hT'
  | true =>
    obtain ⟨n, rfl, hn⟩ := (isW_iff w).1 h
    simpa using fit_one hn W.heap.size a _ hT' (cell_one0 ..)

theorem fit0 (w : Int) (W : World) (hT : WTabs W) :
    Calls Tryd.prog 68 #[.int .i64 w, .slice none 0 0] W fun e W' => e = .returned (.bool (isW w)) ∧ W' = W := by
  cases h : isW w with
  | false => exact fit_none w h _ _ hT
  | true =>
    obtain ⟨n, rfl, hn⟩ := (isW_iff w).1 h
    exact fit_nil hn _ hT

theorem ok2_of {w : Nat} (hw : IsW w) {a b : Int} (ha : Of w a) (hb : Of w b) : ok2 w a b = true := by
  unfold ok2
  rw [(isW_iff w).2 ⟨w, rfl, hw⟩]
  simp [mo_ge ha, mo_ge hb]

theorem ok1_of {w : Nat} (hw : IsW w) {a : Int} (ha : Of w a) : ok1 w a = true := by
  unfold ok1
  rw [(isW_iff w).2 ⟨w, rfl, hw⟩]
  simp [mo_ge ha]

theorem of_ok2 {w a b : Int} (h0 : 0 ≤ a) (h1 : 0 ≤ b) (h : ok2 w a b = true) : ∃ n : Nat, w = n ∧ IsW n ∧ Of n a ∧ Of n b := by
  unfold ok2 at h
  simp only [Bool.and_eq_true, decide_eq_true_eq] at h
  obtain ⟨n, rfl, hn⟩ := (isW_iff w).1 h.1
  exact ⟨n, rfl, hn, (of_mo h0).1 h.2.1, (of_mo h1).1 h.2.2⟩

theorem of_ok1 {w a : Int} (h0 : 0 ≤ a) (h : ok1 w a = true) : ∃ n : Nat, w = n ∧ IsW n ∧ Of n a := by
  unfold ok1 at h
  simp only [Bool.and_eq_true, decide_eq_true_eq] at h
  obtain ⟨n, rfl, hn⟩ := (isW_iff w).1 h.1
  exact ⟨n, rfl, hn, (of_mo h0).1 h.2⟩

/-! The operators of two -/

def sh (w : Nat) (b : Int) : Nat := b.toNat % w
def addH (w : Nat) (a b : Int) : Int := cutI w (min (max (wo w a + wo w b) (lo w)) (hi w))
def subH (w : Nat) (a b : Int) : Int := cutI w (min (max (wo w a - wo w b) (lo w)) (hi w))
def q15I (a b : Int) : Int := cutI 16 (min ((wo 16 a * wo 16 b + 16384) / 32768) 32767)
def andI (a b : Int) : Int := ((a.toNat &&& b.toNat : Nat) : Int)
def orI (a b : Int) : Int := ((a.toNat ||| b.toNat : Nat) : Int)
def xorI (a b : Int) : Int := ((a.toNat ^^^ b.toNat : Nat) : Int)
def shlI (w : Nat) (a b : Int) : Int := cutI w (a * 2 ^ sh w b)
def shrI (w : Nat) (a b : Int) : Int := a / 2 ^ sh w b
def sarI (w : Nat) (a b : Int) : Int := cutI w (wo w a / 2 ^ sh w b)
def rotlI (w : Nat) (a b : Int) : Int := rotl w a.toNat (sh w b)
def rotrI (w : Nat) (a b : Int) : Int := rotl w a.toNat (w - sh w b)
def divS (w : Nat) (a b : Int) : Int := cutI w ((wo w a).tdiv (wo w b))
def remS (w : Nat) (a b : Int) : Int := cutI w ((wo w a).tmod (wo w b))
def traps (w : Nat) (a b : Int) : Bool := decide (wo w a = lo w) && decide (wo w b = -1)

/-- The answer, and the error's number. -/
def two (op : Nat) (w : Nat) (a b : Int) : Int × Int :=
  match op with
  | 1 => (cutI w (a + b), 0)
  | 2 => (cutI w (a - b), 0)
  | 3 => (cutI w (a * b), 0)
  | 4 => if b = 0 then (0, 6) else (a / b, 0)
  | 5 => if b = 0 then (0, 6) else (a % b, 0)
  | 6 => if b = 0 then (0, 6) else if traps w a b then (0, 6) else (divS w a b, 0)
  | 7 => if b = 0 then (0, 6) else (remS w a b, 0)
  | 8 => (andI a b, 0)
  | 9 => (orI a b, 0)
  | 10 => (xorI a b, 0)
  | 11 => (shlI w a b, 0)
  | 12 => (shrI w a b, 0)
  | 13 => (sarI w a b, 0)
  | 14 => (rotlI w a b, 0)
  | 15 => (rotrI w a b, 0)
  | 16 => (min (a + b) (mo w), 0)
  | 17 => (max (a - b) 0, 0)
  | 18 => (addH w a b, 0)
  | 19 => (subH w a b, 0)
  | 20 => (min a b, 0)
  | 21 => (max a b, 0)
  | 22 => (cutI w (min (wo w a) (wo w b)), 0)
  | 23 => (cutI w (max (wo w a) (wo w b)), 0)
  | 24 => ((a + b + 1) / 2, 0)
  | 25 => if w = 16 then (q15I a b, 0) else (0, 2)
  | _ => (0, 2)

/-- An answer with its error, as it is returned. -/
def pairV (p : Int × Int) : Value := .tuple #[.int .u64 p.1, .int .i64 p.2]
end Go.Proofs.YtoihfmammmkloaaDoor.Z
/-
  ints.divide, ints.move, ints.addHeld, ints.subHeld, ints.q15.
-/
set_option linter.unusedVariables false
set_option linter.unusedSimpArgs false
namespace Go.Proofs.YtoihfmammmkloaaDoor.Z
open Go.RowKit Ints

theorem cutw_calls {w : Nat} (hw : IsW w) (n : Int) (W : World) :
    Calls Tryd.prog 69 #[.int .i64 (w : Int), .int .u64 (IntKind.u64.wrap n)] W fun e W' => e = .returned (.int .u64 (cutI w n)) ∧ W' = W := by
  rw [← cut_wrap hw n]
  exact cut_calls hw _ (by rw [IntKind.wrap_u64]; omega) (by rw [IntKind.wrap_u64]; omega) W

theorem cut_w64 {w : Nat} (hw : IsW w) (n : Int) : cutI w (wrap64 n) = cutI w n := by
  unfold wrap64
  rcases hw with rfl | rfl | rfl | rfl <;> simp only [cutI] <;> omega

theorem wo_zero {w : Nat} (hw : IsW w) {b : Int} (hb : Of w b) : wo w b = 0 ↔ b = 0 := by
  obtain ⟨h0, h1⟩ := hb
  rcases hw with rfl | rfl | rfl | rfl <;> simp only [wo, Nat.reduceSub, Int.reducePow] at h1 ⊢ <;> omega

theorem wo_range {w : Nat} (hw : IsW w) {a : Int} (ha : Of w a) : lo w ≤ wo w a ∧ wo w a ≤ hi w := by
  obtain ⟨h0, h1⟩ := ha
  rcases hw with rfl | rfl | rfl | rfl <;> simp only [wo, lo, hi, Nat.reduceSub, Int.reducePow] at h1 ⊢ <;> omega

theorem lohi {w : Nat} (hw : IsW w) : -9223372036854775808 ≤ lo w ∧ lo w ≤ -128 ∧ 127 ≤ hi w ∧ hi w ≤ 9223372036854775807 ∧ hi w = -lo w - 1 := by
  rcases hw with rfl | rfl | rfl | rfl <;> decide

set_option maxRecDepth 100000 in
set_option maxHeartbeats 1000000 in
theorem divide_zero {w : Nat} (op a b : Int) (hb : b = 0) (W : World) :
    Calls Tryd.prog 70 #[.int .u8 op, .int .i64 (w : Int), .int .u64 a, .int .u64 b] W fun e W' => e = .returned (pairV (0, 6)) ∧ W' = W := by
  subst hb
  go_enter Tryd.func70, Tryd.ntmps70
  go_wp2
  refine bodyPost_ret (v := .tuple #[.int .u64 0, .int .i64 6]) (by simp [results, Tryd.results70, go_sem]) rfl ?_
  exact ⟨rfl, rfl⟩

set_option maxRecDepth 100000 in
set_option maxHeartbeats 1000000 in
theorem divide_4 {w : Nat} (hw : IsW w) (a b : Int) (ha : Of w a) (hb : Of w b) (hb0 : ¬ b = 0) (W : World) :
    Calls Tryd.prog 70 #[.int .u8 4, .int .i64 (w : Int), .int .u64 a, .int .u64 b] W fun e W' => e = .returned (pairV (a / b, 0)) ∧ W' = W := by
  have C := hide (@worth_calls w hw)
  have HA := hide ha
  have HB := hide hb
  have E : IntKind.u64.wrap (a.tdiv b) = a / b := by
    rw [Int.tdiv_eq_ediv_of_nonneg ha.1, IntKind.wrap_u64]
    have h1 := Int.ediv_nonneg ha.1 hb.1
    have h2 := Int.ediv_le_self b ha.1
    have h3 := ha.lt64 hw
    omega
  clear ha hb
  go_enter Tryd.func70, Tryd.ntmps70
  go_wp2_with (first | (with_reducible refine (C.out a HA.out _).mono ?_; rintro e w1 ⟨rfl, rfl⟩) | (with_reducible refine (C.out b HB.out _).mono ?_; rintro e w1 ⟨rfl, rfl⟩))
  refine bodyPost_ret (v := .tuple #[.int .u64 (a / b), .int .i64 0]) (by simp [results, Tryd.results70, go_sem]) rfl ?_
  exact ⟨rfl, rfl⟩

set_option maxRecDepth 100000 in
set_option maxHeartbeats 1000000 in
theorem divide_5 {w : Nat} (hw : IsW w) (a b : Int) (ha : Of w a) (hb : Of w b) (hb0 : ¬ b = 0) (W : World) :
    Calls Tryd.prog 70 #[.int .u8 5, .int .i64 (w : Int), .int .u64 a, .int .u64 b] W fun e W' => e = .returned (pairV (a % b, 0)) ∧ W' = W := by
  have C := hide (@worth_calls w hw)
  have HA := hide ha
  have HB := hide hb
  have E : a.tmod b = a % b := Int.tmod_eq_emod_of_nonneg ha.1
  clear ha hb
  go_enter Tryd.func70, Tryd.ntmps70
  go_wp2_with (first | (with_reducible refine (C.out a HA.out _).mono ?_; rintro e w1 ⟨rfl, rfl⟩) | (with_reducible refine (C.out b HB.out _).mono ?_; rintro e w1 ⟨rfl, rfl⟩))
  refine bodyPost_ret (v := .tuple #[.int .u64 (a % b), .int .i64 0]) (by simp [results, Tryd.results70, go_sem]) rfl ?_
  exact ⟨rfl, rfl⟩

set_option maxRecDepth 100000 in
set_option maxHeartbeats 1000000 in
theorem divide_7 {w : Nat} (hw : IsW w) (a b : Int) (ha : Of w a) (hb : Of w b) (hb0 : ¬ b = 0) (W : World) :
    Calls Tryd.prog 70 #[.int .u8 7, .int .i64 (w : Int), .int .u64 a, .int .u64 b] W fun e W' => e = .returned (pairV (remS w a b, 0)) ∧ W' = W := by
  have C := hide (@worth_calls w hw)
  have CC := hide (@cutw_calls w hw)
  have HA := hide ha
  have HB := hide hb
  have hy : ¬ wo w b = 0 := fun h => hb0 ((wo_zero hw hb).1 h)
  have K := hide (@cut_w64 w hw)
  clear ha hb
  go_enter Tryd.func70, Tryd.ntmps70
  go_wp2_with (first | (with_reducible refine (C.out a HA.out _).mono ?_; rintro e w1 ⟨rfl, rfl⟩) | (with_reducible refine (C.out b HB.out _).mono ?_; rintro e w1 ⟨rfl, rfl⟩) | (with_reducible refine (CC.out _ _).mono ?_; rintro e w1 ⟨rfl, rfl⟩))
  refine bodyPost_ret (v := .tuple #[.int .u64 (cutI w ((wo w a).tmod (wo w b))), .int .i64 0]) (by simp [results, Tryd.results70, go_sem]) rfl ?_
  exact ⟨rfl, rfl⟩

set_option maxRecDepth 100000 in
set_option maxHeartbeats 1000000 in
theorem divide_6 {w : Nat} (hw : IsW w) (a b : Int) (ha : Of w a) (hb : Of w b) (hb0 : ¬ b = 0) (W : World) :
    Calls Tryd.prog 70 #[.int .u8 6, .int .i64 (w : Int), .int .u64 a, .int .u64 b] W fun e W' => e = .returned (pairV (if traps w a b then (0, 6) else (divS w a b, 0))) ∧ W' = W := by
  have C := hide (@worth_calls w hw)
  have CC := hide (@cutw_calls w hw)
  have CL := hide (@least_calls w hw)
  have HA := hide ha
  have HB := hide hb
  have hy : ¬ wo w b = 0 := fun h => hb0 ((wo_zero hw hb).1 h)
  have K := hide (@cut_w64 w hw)
  clear ha hb
  by_cases cx : wo w a = lo w
  · by_cases cy : wo w b = -1
    · have T : traps w a b = true := by simp [traps, cx, cy]
      simp only [T, Bool.false_eq_true, ↓reduceIte]
      clear T
      go_enter Tryd.func70, Tryd.ntmps70
      go_wp2_with (first | (with_reducible refine (C.out a HA.out _).mono ?_; rintro e w1 ⟨rfl, rfl⟩) | (with_reducible refine (C.out b HB.out _).mono ?_; rintro e w1 ⟨rfl, rfl⟩) | (with_reducible refine (CL.out _).mono ?_; rintro e w1 ⟨rfl, rfl⟩))
      refine bodyPost_ret (v := .tuple #[.int .u64 0, .int .i64 6]) (by simp [results, Tryd.results70, go_sem]) rfl ?_
      exact ⟨rfl, rfl⟩
    · have T : traps w a b = false := by simp [traps, cy]
      simp only [T, Bool.false_eq_true, ↓reduceIte]
      clear T
      have R := hide (show cutI w (wrap64 ((lo w).tdiv (wo w b))) = divS w a b by rw [cut_w64 hw, ← cx]; rfl)
      go_enter Tryd.func70, Tryd.ntmps70
      go_wp2_with (first | (with_reducible refine (C.out a HA.out _).mono ?_; rintro e w1 ⟨rfl, rfl⟩) | (with_reducible refine (C.out b HB.out _).mono ?_; rintro e w1 ⟨rfl, rfl⟩) | (with_reducible refine (CL.out _).mono ?_; rintro e w1 ⟨rfl, rfl⟩) | (with_reducible refine (CC.out _ _).mono ?_; rintro e w1 ⟨rfl, rfl⟩))
      refine bodyPost_ret (v := .tuple #[.int .u64 (cutI w (wrap64 ((lo w).tdiv (wo w b)))), .int .i64 0]) (by simp [results, Tryd.results70, go_sem]) rfl ?_
      exact ⟨by rw [← R.out]; rfl, rfl⟩
  · have T : traps w a b = false := by simp [traps, cx]
    simp only [T, Bool.false_eq_true, ↓reduceIte]
    clear T
    have R := hide (show cutI w (wrap64 ((wo w a).tdiv (wo w b))) = divS w a b by rw [cut_w64 hw]; rfl)
    go_enter Tryd.func70, Tryd.ntmps70
    go_wp2_with (first | (with_reducible refine (C.out a HA.out _).mono ?_; rintro e w1 ⟨rfl, rfl⟩) | (with_reducible refine (C.out b HB.out _).mono ?_; rintro e w1 ⟨rfl, rfl⟩) | (with_reducible refine (CL.out _).mono ?_; rintro e w1 ⟨rfl, rfl⟩) | (with_reducible refine (CC.out _ _).mono ?_; rintro e w1 ⟨rfl, rfl⟩))
    refine bodyPost_ret (v := .tuple #[.int .u64 (cutI w (wrap64 ((wo w a).tdiv (wo w b)))), .int .i64 0]) (by simp [results, Tryd.results70, go_sem]) rfl ?_
    exact ⟨by rw [← R.out]; rfl, rfl⟩

/-! Moves -/

/-- What is left of b, divided by w, as the machine reckons it. -/
theorem sh_eq {w : Nat} (hw : IsW w) {b : Int} (h0 : 0 ≤ b) : b.tmod (IntKind.u64.wrap (w : Int)) = (sh w b : Int) := by
  have e : IntKind.u64.wrap (w : Int) = (w : Int) := by
    have := hw.le
    rw [IntKind.wrap_u64]; omega
  obtain ⟨n, rfl⟩ := Int.eq_ofNat_of_zero_le h0
  rw [e, Int.tmod_eq_emod_of_nonneg h0]
  rfl

theorem sh_lt {w : Nat} (hw : IsW w) (b : Int) : sh w b < w := Nat.mod_lt _ hw.pos

/-- A turn by its two parts: moved up by n, and what fell off. -/
theorem turn_bits {w : Nat} (hw : IsW w) (a : Nat) (n : Nat) (hn : n ≤ w) (ha : a < 2 ^ w) :
    ((a * 2 ^ n % 18446744073709551616) ||| (a / 2 ^ (w - n))) % 2 ^ w = rotl w a n := by
  have hl := shr_lt a w n ha hn
  have e : a * 2 ^ n % 18446744073709551616 = 2 ^ n * (a % 2 ^ (64 - n)) := by
    have := shl_mod a 64 n (by have := hw.le; omega)
    rw [show (2 : Nat) ^ 64 = 18446744073709551616 from rfl] at this
    rw [this, Nat.mul_comm]
  rw [e, ← Nat.two_pow_add_eq_or_of_lt hl, ← e]
  have d : (2 : Nat) ^ w ∣ 18446744073709551616 := by
    rw [show (18446744073709551616 : Nat) = 2 ^ 64 from rfl]
    exact Nat.pow_dvd_pow 2 hw.le
  rw [Nat.add_mod, Nat.mod_mod_of_dvd _ d, ← Nat.add_mod, Nat.add_mod, shl_mod _ _ _ hn]
  rw [rotl_eq _ _ _ hn]
  have hj := join_lt _ _ _ _ hl hn (Nat.mod_lt a (Nat.two_pow_pos (w - n)))
  have h1 : a / 2 ^ (w - n) < 2 ^ w := by omega
  rw [Nat.mod_eq_of_lt h1, Nat.add_comm, Nat.mod_eq_of_lt hj]

theorem turn_int {w : Nat} (hw : IsW w) (a : Int) (ha : Of w a) (n m : Nat) (hn : n + m = w) :
    cutI w (bits .or .u64 (IntKind.u64.wrap (a * 2 ^ n)) (a / 2 ^ m)) = (rotl w a.toNat n : Int) ∧ cutI w (bits .or .u64 (a / 2 ^ m) (IntKind.u64.wrap (a * 2 ^ n))) = (rotl w a.toNat n : Int) ∧
    0 ≤ bits .or .u64 (IntKind.u64.wrap (a * 2 ^ n)) (a / 2 ^ m) ∧ bits .or .u64 (IntKind.u64.wrap (a * 2 ^ n)) (a / 2 ^ m) < 18446744073709551616 ∧
    0 ≤ bits .or .u64 (a / 2 ^ m) (IntKind.u64.wrap (a * 2 ^ n)) ∧ bits .or .u64 (a / 2 ^ m) (IntKind.u64.wrap (a * 2 ^ n)) < 18446744073709551616 := by
  have h64 := ha.lt64 hw
  obtain ⟨h0, h1⟩ := ha
  obtain ⟨k, rfl⟩ := Int.eq_ofNat_of_zero_le h0
  have hk : k < 2 ^ w := by exact_mod_cast h1
  have e1 : IntKind.u64.wrap ((k : Int) * 2 ^ n) = ((k * 2 ^ n % 18446744073709551616 : Nat) : Int) := by
    rw [IntKind.wrap_u64]; simp
  have e2 : (k : Int) / 2 ^ m = ((k / 2 ^ m : Nat) : Int) := by simp
  have l1 : k * 2 ^ n % 18446744073709551616 < 18446744073709551616 := Nat.mod_lt _ (by decide)
  have l2 : k / 2 ^ m < 18446744073709551616 := Nat.lt_of_le_of_lt (Nat.div_le_self _ _) (by omega)
  have hm : m = w - n := by omega
  have l3 : (k * 2 ^ n % 18446744073709551616) ||| (k / 2 ^ m) < 2 ^ 64 := Nat.or_lt_two_pow l1 l2
  have t := turn_bits hw k n (by omega) hk
  rw [← hm] at t
  rw [e1, e2, bits_or_u64_nat _ _ l1 l2, bits_or_u64_nat _ _ l2 l1, Nat.or_comm (k / 2 ^ m)]
  unfold cutI
  have e3 : ∀ x : Nat, (x : Int) % 2 ^ w = ((x % 2 ^ w : Nat) : Int) := fun x => by simp
  rw [e3, t]
  refine ⟨rfl, rfl, ?_, ?_, ?_, ?_⟩ <;> omega

set_option maxRecDepth 100000 in
set_option maxHeartbeats 1000000 in
theorem move_any {w : Nat} (hw : IsW w) (op a b : Int) (ha : Of w a) (hb : Of w b) (m : Int) (W : World)
    (hm : (op = 11 ∧ m = IntKind.u64.wrap (a * 2 ^ sh w b)) ∨ (op = 12 ∧ m = a / 2 ^ sh w b) ∨ (op = 13 ∧ m = IntKind.u64.wrap (wo w a / 2 ^ sh w b)) ∨ (op = 14 ∧ m = bits .or .u64 (IntKind.u64.wrap (a * 2 ^ sh w b)) (a / 2 ^ (w - sh w b))) ∨ (op = 15 ∧ m = bits .or .u64 (a / 2 ^ sh w b) (IntKind.u64.wrap (a * 2 ^ (w - sh w b))))) :
    Calls Tryd.prog 71 #[.int .u8 op, .int .i64 (w : Int), .int .u64 a, .int .u64 b] W fun e W' => e = .returned (.int .u64 m) ∧ W' = W := by
  have C := hide (worth_calls hw a ha)
  have HB := hide hb
  have E := sh_eq hw hb.1
  have hlt := sh_lt hw b
  have hle := hw.le
  have hpos := hw.pos
  have E0 : ¬ IntKind.u64.wrap (w : Int) = 0 := by rw [IntKind.wrap_u64]; omega
  have E1 : IntKind.u64.wrap (w : Int) = (w : Int) := by rw [IntKind.wrap_u64]; omega
  have E2 : IntKind.u64.wrap ((w : Int) - (sh w b : Int)) = ((w - sh w b : Nat) : Int) := by rw [IntKind.wrap_u64]; omega
  generalize sh w b = n at *
  generalize hr : w - n = r at *
  have hn1 : (n : Int) ≤ 64 := by omega
  have hr1 : (r : Int) ≤ 64 := by omega
  rw [E1] at E E0
  clear ha hb hle hpos hlt
  clear hr
  rcases hm with ⟨rfl, rfl⟩ | ⟨rfl, rfl⟩ | ⟨rfl, rfl⟩ | ⟨rfl, rfl⟩ | ⟨rfl, rfl⟩
  all_goals
    go_enter Tryd.func71, Tryd.ntmps71
    go_wp2_with (with_reducible refine (C.out _).mono ?_; rintro e w1 ⟨rfl, rfl⟩)
    go_ret
    exact ⟨rfl, rfl⟩

/-! Sums and differences that are held -/

set_option maxRecDepth 100000 in
set_option maxHeartbeats 1000000 in
theorem addHeld_calls {w : Nat} (hw : IsW w) (x y : Int) (hx : lo w ≤ x ∧ x ≤ hi w) (hy : lo w ≤ y ∧ y ≤ hi w) (W : World) :
    Calls Tryd.prog 73 #[.int .i64 (w : Int), .int .i64 x, .int .i64 y] W fun e W' => e = .returned (.int .i64 (min (max (x + y) (lo w)) (hi w))) ∧ W' = W := by
  have CL := hide (@least_calls w hw)
  have CG := hide (@greatest_calls w hw)
  have HX := hide hx
  have HY := hide hy
  have HL := hide (lohi hw)
  clear hx hy
  by_cases c : x < 0
  · go_enter Tryd.func73, Tryd.ntmps73
    go_wp2_with (first | (with_reducible refine (CL.out _).mono ?_; rintro e w1 ⟨rfl, rfl⟩)| (with_reducible refine (CG.out _).mono ?_; rintro e w1 ⟨rfl, rfl⟩))
    go_ret
    refine ⟨congrArg (fun z => Ending.returned (.int .i64 z)) ?_, rfl⟩
    have h1 := HX.out; have h2 := HY.out; have h3 := HL.out
    unfold wrap64
    omega
  · go_enter Tryd.func73, Tryd.ntmps73
    go_wp2_with (first | (with_reducible refine (CL.out _).mono ?_; rintro e w1 ⟨rfl, rfl⟩)| (with_reducible refine (CG.out _).mono ?_; rintro e w1 ⟨rfl, rfl⟩))
    go_ret
    refine ⟨congrArg (fun z => Ending.returned (.int .i64 z)) ?_, rfl⟩
    have h1 := HX.out; have h2 := HY.out; have h3 := HL.out
    unfold wrap64
    omega

set_option maxRecDepth 100000 in
set_option maxHeartbeats 1000000 in
theorem subHeld_calls {w : Nat} (hw : IsW w) (x y : Int) (hx : lo w ≤ x ∧ x ≤ hi w) (hy : lo w ≤ y ∧ y ≤ hi w) (W : World) :
    Calls Tryd.prog 75 #[.int .i64 (w : Int), .int .i64 x, .int .i64 y] W fun e W' => e = .returned (.int .i64 (min (max (x - y) (lo w)) (hi w))) ∧ W' = W := by
  have CL := hide (@least_calls w hw)
  have CG := hide (@greatest_calls w hw)
  have HX := hide hx
  have HY := hide hy
  have HL := hide (lohi hw)
  clear hx hy
  by_cases c : x < 0
  · go_enter Tryd.func75, Tryd.ntmps75
    go_wp2_with (first | (with_reducible refine (CL.out _).mono ?_; rintro e w1 ⟨rfl, rfl⟩)| (with_reducible refine (CG.out _).mono ?_; rintro e w1 ⟨rfl, rfl⟩))
    go_ret
    refine ⟨congrArg (fun z => Ending.returned (.int .i64 z)) ?_, rfl⟩
    have h1 := HX.out; have h2 := HY.out; have h3 := HL.out
    unfold wrap64
    omega
  · go_enter Tryd.func75, Tryd.ntmps75
    go_wp2_with (first | (with_reducible refine (CL.out _).mono ?_; rintro e w1 ⟨rfl, rfl⟩)| (with_reducible refine (CG.out _).mono ?_; rintro e w1 ⟨rfl, rfl⟩))
    go_ret
    refine ⟨congrArg (fun z => Ending.returned (.int .i64 z)) ?_, rfl⟩
    have h1 := HX.out; have h2 := HY.out; have h3 := HL.out
    unfold wrap64
    omega
end Go.Proofs.YtoihfmammmkloaaDoor.Z
