/-
  Bits of words: signs, masks.
-/
import Derived.Test.YtpeckiaimellmaaDoorPkFlo
import Derived.Laws.BitsAllLaws
import Derived.Laws.BitsLemmas
import Derived.Laws.Bits64b
set_option linter.unusedVariables false
set_option linter.unusedSimpArgs false
namespace Go.Proofs.YtpeckiaimellmaaDoor.F
open Flo

def IsW (w : Nat) : Prop := w = 32 ∨ w = 64
def fm (w : Nat) : Ieee.Format := if w = 32 then Ieee.single else Ieee.double
def nanN (w : Nat) : Nat := if w = 32 then 2143289344 else 9221120237041090560
def signN (w : Nat) : Nat := (fm w).signWeight
def infN (w : Nat) : Nat := (fm w).infRung
/-- Is it no number? -/
def na (w a : Nat) : Bool := decide (infN w < rung (fm w) a)
def cl (w a : Nat) : Nat := if na w a then nanN w else a

theorem fm32 : fm 32 = Ieee.single := rfl
theorem fm64 : fm 64 = Ieee.double := rfl
theorem sign32 : signN 32 = 2147483648 := by decide
theorem sign64 : signN 64 = 9223372036854775808 := by decide
theorem inf32 : infN 32 = 2139095040 := by decide
theorem inf64 : infN 64 = 9218868437227405312 := by decide
theorem good (w : Nat) : Good (fm w) := by
  unfold fm; split
  · exact good_single
  · exact good_double
theorem width_fm {w : Nat} (hw : IsW w) : (fm w).width = w := by rcases hw with rfl | rfl <;> decide
theorem sign_pow {w : Nat} (hw : IsW w) : signN w = 2 ^ (w - 1) := by rcases hw with rfl | rfl <;> decide
theorem two_sign {w : Nat} (hw : IsW w) : 2 ^ w = 2 * signN w := by rcases hw with rfl | rfl <;> decide
theorem pow_le {w : Nat} (hw : IsW w) : 2 ^ w ≤ 18446744073709551616 := by rcases hw with rfl | rfl <;> decide
theorem inf_lt_sign (w : Nat) : infN w < signN w := inf_lt_sw _
theorem nan_lt {w : Nat} (hw : IsW w) : nanN w < signN w := by rcases hw with rfl | rfl <;> decide
theorem na_nan {w : Nat} (hw : IsW w) : na w (nanN w) = true := by rcases hw with rfl | rfl <;> decide
theorem cl_lt {w a : Nat} (hw : IsW w) (h : a < 2 ^ w) : cl w a < 2 ^ w := by
  have := nan_lt hw
  have := two_sign hw
  unfold cl; split <;> omega

theorem testBit_not {b : Nat} (hb : b < 2 ^ 64) (i : Nat) : (18446744073709551615 - b).testBit i = (decide (i < 64) && !b.testBit i) := by
  have := Nat.testBit_two_pow_sub_succ hb i
  rw [show 2 ^ 64 - (b + 1) = 18446744073709551615 - b by omega] at this
  exact this

/-- Without its sign. -/
theorem andNot_sign {w a : Nat} (hw : IsW w) (ha : a < 2 ^ w) : a &&& (18446744073709551615 - signN w) = rung (fm w) a := by
  have hs : signN w < 2 ^ 64 := by rcases hw with rfl | rfl <;> decide
  have hr : rung (fm w) a = a % 2 ^ (w - 1) := by rw [← sign_pow hw]; rfl
  rw [hr]
  apply Nat.eq_of_testBit_eq
  intro i
  rw [Nat.testBit_and, testBit_not hs, Nat.testBit_mod_two_pow, sign_pow hw, Nat.testBit_two_pow]
  by_cases c : a.testBit i
  · have hi : i < w := by
      rcases Nat.lt_or_ge i w with d | d
      · exact d
      · rw [Nat.testBit_lt_two_pow (Nat.lt_of_lt_of_le ha (Nat.pow_le_pow_right (by decide) d))] at c
        exact absurd c (by decide)
    have h64 : i < 64 := by rcases hw with rfl | rfl <;> omega
    simp only [c, Bool.true_and, h64, decide_true, Bool.and_true]
    have hw1 : 1 ≤ w := by rcases hw with rfl | rfl <;> omega
    by_cases e : w - 1 = i
    · subst e; simp
    · simp [e]; omega
  · simp [c]

theorem bits_andNot_sign {w a : Nat} (hw : IsW w) (ha : a < 2 ^ w) : bits .andNot .u64 (a : Int) (signN w : Int) = (rung (fm w) a : Int) := by
  have := pow_le hw
  have hs : signN w < 18446744073709551616 := by rcases hw with rfl | rfl <;> decide
  rw [u64_andNot_nat a _ (by omega) hs, andNot_sign hw ha]

/-- The sign alone. -/
def signOf (w a : Nat) : Nat := if neg (fm w) a then signN w else 0
theorem parts {w a : Nat} (hw : IsW w) (ha : a < 2 ^ w) : a = signOf w a + rung (fm w) a := by
  have := word_parts (fm w) (x := a) (by rw [width_fm hw]; exact ha)
  unfold Ieee.Format.word at this
  unfold signOf signN
  cases h : neg (fm w) a <;> simp [h] at this ⊢ <;> omega
theorem neg_bit {w a : Nat} (hw : IsW w) : neg (fm w) a = a.testBit (w - 1) := by
  unfold neg
  rw [show (fm w).signWeight = 2 ^ (w - 1) from sign_pow hw, Nat.testBit_eq_decide_div_mod_eq]
  simp [Bool.beq_eq_decide_eq]
theorem and_sign {w a : Nat} (hw : IsW w) : a &&& signN w = signOf w a := by
  unfold signOf
  rw [neg_bit hw, sign_pow hw]
  apply Nat.eq_of_testBit_eq
  intro i
  rw [Nat.testBit_and, Nat.testBit_two_pow]
  by_cases e : w - 1 = i
  · subst e
    cases a.testBit (w - 1) <;> simp
  · cases a.testBit (w - 1) <;> simp [Nat.testBit_two_pow, e]
theorem bits_and_sign {w a : Nat} (hw : IsW w) (ha : a < 2 ^ w) : bits .and .u64 (a : Int) (signN w : Int) = (signOf w a : Int) := by
  have := pow_le hw
  have hs : signN w < 18446744073709551616 := by rcases hw with rfl | rfl <;> decide
  rw [u64_and_nat a _ (by omega) hs, and_sign hw]
theorem signOf_lt {w : Nat} (hw : IsW w) (a : Nat) : signOf w a < 18446744073709551616 := by
  have hs : signN w < 18446744073709551616 := by rcases hw with rfl | rfl <;> decide
  unfold signOf; split <;> omega
/-- A sign and a rung, put together. -/
theorem or_parts {w s r : Nat} (hw : IsW w) (hs : s = 0 ∨ s = signN w) (hr : r < signN w) : r ||| s = s + r := by
  rcases hs with rfl | rfl
  · simp
  · rw [Nat.or_comm]
    have := Nat.two_pow_add_eq_or_of_lt (i := w - 1) (b := r) (by rw [← sign_pow hw]; exact hr) 1
    rw [Nat.mul_one, ← sign_pow hw] at this
    exact this.symm
theorem signOf_cases (w a : Nat) : signOf w a = 0 ∨ signOf w a = signN w := by unfold signOf; split <;> simp
theorem bits_or_parts {w s r : Nat} (hw : IsW w) (hs : s = 0 ∨ s = signN w) (hr : r < signN w) : bits .or .u64 (r : Int) (s : Int) = ((s + r : Nat) : Int) := by
  have hs' : signN w < 18446744073709551616 := by rcases hw with rfl | rfl <;> decide
  rw [u64_or_nat r s (by omega) (by omega), or_parts hw hs hr]
theorem bits_or_parts' {w s r : Nat} (hw : IsW w) (hs : s = 0 ∨ s = signN w) (hr : r < signN w) : bits .or .u64 (s : Int) (r : Int) = ((s + r : Nat) : Int) := by
  have hs' : signN w < 18446744073709551616 := by rcases hw with rfl | rfl <;> decide
  rw [u64_or_nat s r (by omega) (by omega), Nat.or_comm, or_parts hw hs hr]

/-- With the other sign. -/
def flip (w a : Nat) : Nat := if neg (fm w) a then a - signN w else a + signN w
theorem xor_sign {w a : Nat} (hw : IsW w) (ha : a < 2 ^ w) : a ^^^ signN w = flip w a := by
  have hp := parts hw ha
  have hr : rung (fm w) a < signN w := rung_lt _ _
  have h2 : ∀ r : Nat, r < signN w → r ^^^ signN w = signN w + r := fun r h => by
    rw [← or_parts hw (.inr rfl) h]
    apply Nat.eq_of_testBit_eq
    intro i
    rw [Nat.testBit_xor, Nat.testBit_or, sign_pow hw, Nat.testBit_two_pow]
    by_cases e : w - 1 = i
    · subst e
      rw [Nat.testBit_lt_two_pow (by rw [← sign_pow hw]; exact h)]
      simp
    · simp [e]
  unfold flip
  unfold signOf at hp
  cases h : neg (fm w) a
  · rw [h] at hp
    simp only [Bool.false_eq_true, if_false, Nat.zero_add] at hp ⊢
    rw [hp, h2 _ hr, ← hp, Nat.add_comm]
  · rw [h] at hp
    simp only [if_true] at hp ⊢
    have : a = rung (fm w) a ^^^ signN w := by rw [h2 _ hr]; exact hp
    rw [this, Nat.xor_assoc, Nat.xor_self, Nat.xor_zero, h2 _ hr]
    omega
theorem bits_xor_sign {w a : Nat} (hw : IsW w) (ha : a < 2 ^ w) : bits .xor .u64 (a : Int) (signN w : Int) = (flip w a : Int) := by
  have := pow_le hw
  have hs : signN w < 18446744073709551616 := by rcases hw with rfl | rfl <;> decide
  rw [u64_xor_nat a _ (by omega) hs, xor_sign hw ha]
theorem flip_lt {w a : Nat} (hw : IsW w) (ha : a < 2 ^ w) : flip w a < 2 ^ w := by
  have hp := parts hw ha
  have hr : rung (fm w) a < signN w := rung_lt _ _
  have := two_sign hw
  unfold flip
  unfold signOf at hp
  split
  · omega
  · rename_i h
    rw [if_neg h] at hp
    omega
theorem flip_word {w a : Nat} (hw : IsW w) (ha : a < 2 ^ w) : flip w a = (fm w).word (!neg (fm w) a) (rung (fm w) a) := by
  have hp := parts hw ha
  unfold flip Ieee.Format.word
  unfold signOf at hp
  cases h : neg (fm w) a <;> simp [h] at hp ⊢ <;> unfold signN at * <;> omega

/-! masks -/

theorem andNot_mask {a k : Nat} (hk : k ≤ 64) (ha : a < 2 ^ 64) : a &&& (18446744073709551615 - (2 ^ k - 1)) = a - a % 2 ^ k := by
  have hp := Nat.two_pow_pos k
  have hle : 2 ^ k ≤ 2 ^ 64 := Nat.pow_le_pow_right (by decide) hk
  have e : a - a % 2 ^ k = a / 2 ^ k * 2 ^ k := by
    have := Nat.div_add_mod a (2 ^ k)
    rw [Nat.mul_comm] at this
    omega
  rw [e]
  apply Nat.eq_of_testBit_eq
  intro i
  rw [Nat.testBit_and, testBit_not (by omega), Nat.testBit_two_pow_sub_one, Nat.testBit_mul_two_pow, Nat.testBit_div_two_pow]
  by_cases c : k ≤ i
  · have : ¬ i < k := by omega
    rw [show i - k + k = i by omega]
    simp only [this, c, decide_true, decide_false, Bool.not_false, Bool.and_true, Bool.true_and]
    by_cases d : i < 64
    · simp [d]
    · rw [Nat.testBit_lt_two_pow (Nat.lt_of_lt_of_le ha (Nat.pow_le_pow_right (by decide) (by omega)))]
      simp
  · have : i < k := by omega
    simp [this, c]
end Go.Proofs.YtpeckiaimellmaaDoor.F
