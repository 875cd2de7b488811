/-
  The machine's 'or', shifts and wraps at numbers of digits.
-/
import Derived.Test.YteacjhmbamcegabLebMath
import Derived.WalkKit
import Derived.WalkLawsBesides
import Derived.Laws.BitsLemmas
import Derived.Laws.Bits64b
namespace Go.Proofs.Yteacjhmbamcegab
open Go.RowKit

/-- A number below 2^i, and one whose bits begin at i, put together: their sum. -/
theorem or_sum (i : Nat) (z q : Int) (hz0 : 0 ≤ z) (hz : z < 2 ^ i) (hq0 : 0 ≤ q) (hq : 2 ^ i * q < 18446744073709551616) (hz1 : z < 18446744073709551616) :
    bits .or .u64 z (2 ^ i * q) = z + 2 ^ i * q := by
  obtain ⟨a, rfl⟩ := Int.eq_ofNat_of_zero_le hz0
  obtain ⟨b, rfl⟩ := Int.eq_ofNat_of_zero_le hq0
  have e : ((2 : Int) ^ i * (b : Int)) = ((2 ^ i * b : Nat) : Int) := by simp
  rw [e] at hq ⊢
  have ha : a < 2 ^ i := by exact_mod_cast hz
  rw [bits_or_u64_nat a _ (by omega) (by omega), Nat.or_comm, ← Nat.two_pow_add_eq_or_of_lt ha b]
  omega

theorem pow_le_64 {k : Nat} (h : k ≤ 63) : (2 : Int) ^ k ≤ 9223372036854775808 := by
  have : (2 : Nat) ^ k ≤ 2 ^ 63 := Nat.pow_le_pow_right (by decide) h
  have h2 : ((2 ^ k : Nat) : Int) ≤ ((2 ^ 63 : Nat) : Int) := by exact_mod_cast this
  simpa using h2

theorem mul_lt_of {a b c d : Int} (ha : 0 ≤ a) (hb : b ≤ d) (hc : a ≤ c) (hd : 0 ≤ d) : a * b ≤ c * d :=
  Int.le_trans (Int.mul_le_mul_of_nonneg_left hb ha) (Int.mul_le_mul_of_nonneg_right hc hd)

theorem step_or (L : List Int) (k : Nat) (z : Int) (hz : z = Leb.val L k) (hk : k + 1 ≤ 9) (hl : k < L.length) :
    bits .or .u64 z (IntKind.u64.wrap (L[k]?.getD 0 % 128 * 2 ^ (7 * k))) = Leb.val L (k + 1) := by
  have h0 := Leb.val_nonneg L k
  have h1 := Leb.val_lt L k
  have hp := pow_le_64 (k := 7 * k) (by omega)
  have hp8 := pow_le_64 (k := 7 * k + 7) (by omega)
  rw [Int.pow_add] at hp8
  have hpos := Leb.pow2_pos (7 * k)
  have hd0 : 0 ≤ L[k]?.getD 0 % 128 := by omega
  have hd1 : L[k]?.getD 0 % 128 < 128 := by omega
  rw [Leb.val_succ L k hl, ← Leb.pow7, ← hz]
  rw [← hz, ← Leb.pow7] at h1
  rw [← hz] at h0
  generalize L[k]?.getD 0 % 128 = d at *
  have hm : d * 2 ^ (7 * k) ≤ 127 * 2 ^ (7 * k) := Int.mul_le_mul_of_nonneg_right (by omega) (by omega)
  have hm0 : 0 ≤ d * 2 ^ (7 * k) := Int.mul_nonneg hd0 (by omega)
  rw [IntKind.wrap_u64, Int.emod_eq_of_lt hm0 (by omega), Int.mul_comm d]
  rw [Int.mul_comm d] at hm
  exact or_sum (7 * k) z d h0 h1 hd0 (by omega) (by omega)

/-- A number below P, and t times P: it is below P times Q just if t is below Q. -/
theorem below_iff {v t P Q : Int} (hv0 : 0 ≤ v) (hv : v < P) : v + P * t < P * Q ↔ t < Q := by
  constructor
  · intro h
    refine Int.not_le.mp fun hq => ?_
    have := Int.mul_le_mul_of_nonneg_left hq (show 0 ≤ P by omega)
    omega
  · intro h
    have := Int.mul_le_mul_of_nonneg_left (show t + 1 ≤ Q by omega) (show 0 ≤ P by omega)
    rw [Int.mul_add] at this
    omega

theorem above_iff {v t P Q : Int} (hv0 : 0 ≤ v) (hv : v < P) : -(P * Q) ≤ v + P * t ↔ -Q ≤ t := by
  constructor
  · intro h
    refine Int.not_lt.mp fun hq => ?_
    have := Int.mul_le_mul_of_nonneg_left (show t + 1 ≤ -Q by omega) (show 0 ≤ P by omega)
    rw [Int.mul_add, Int.mul_neg] at this
    omega
  · intro h
    have := Int.mul_le_mul_of_nonneg_left h (show 0 ≤ P by omega)
    rw [Int.mul_neg] at this
    omega

theorem shr_zero_iff (t : Int) (s : Nat) (ht0 : 0 ≤ t) (ht : t < 128) : t / 2 ^ min s 8 = 0 ↔ t < 2 ^ s := by
  by_cases h : s ≤ 8
  · rw [Nat.min_eq_left h]
    have hp := Leb.pow2_pos s
    constructor
    · intro e
      have := Int.lt_mul_ediv_self_add (x := t) hp
      rw [e] at this; omega
    · intro e; exact Int.ediv_eq_zero_of_lt ht0 e
  · rw [Nat.min_eq_right (by omega)]
    have : (2 : Nat) ^ 8 ≤ 2 ^ s := Nat.pow_le_pow_right (by decide) (by omega)
    have h2 : ((2 ^ 8 : Nat) : Int) ≤ ((2 ^ s : Nat) : Int) := by exact_mod_cast this
    simp at h2
    constructor
    · intro _; omega
    · intro _; omega

theorem sar_iff (g : Int) (s : Nat) (h0 : -64 ≤ g) (h1 : g < 64) : (g / 2 ^ min s 8 = 0 ∨ g / 2 ^ min s 8 = -1) ↔ -2 ^ s ≤ g ∧ g < 2 ^ s := by
  by_cases h : s ≤ 8
  · rw [Nat.min_eq_left h]
    have hp := Leb.pow2_pos s
    have e1 := Int.lt_mul_ediv_self_add (x := g) hp
    have e2 := Int.mul_ediv_self_le (x := g) (k := 2 ^ s) (by omega)
    constructor
    · rintro (e | e) <;> rw [e] at e1 e2 <;> omega
    · rintro ⟨a, b⟩
      by_cases hg : 0 ≤ g
      · left; exact Int.ediv_eq_zero_of_lt hg b
      · right
        have hlt : g / 2 ^ s < 0 := Int.ediv_neg_of_neg_of_pos (by omega) hp
        have hge : -1 ≤ g / 2 ^ s := (Int.le_ediv_iff_mul_le hp).mpr (by omega)
        omega
  · rw [Nat.min_eq_right (by omega)]
    have : (2 : Nat) ^ 8 ≤ 2 ^ s := Nat.pow_le_pow_right (by decide) (by omega)
    have h2 : ((2 ^ 8 : Nat) : Int) ≤ ((2 ^ s : Nat) : Int) := by exact_mod_cast this
    simp at h2
    constructor
    · intro _; omega
    · intro _; omega

/-- The value of a byte's seven low bits, with their sign. -/
theorem sign7 (t : Int) (h0 : 0 ≤ t) (h1 : t < 128) : IntKind.i8.wrap (t * 2) / 2 = if 64 ≤ t then t - 128 else t := by
  simp [IntKind.wrap, IntKind.bits, IntKind.signed]
  split <;> omega

theorem or_U (L : List Int) (k : Nat) (hl : k < L.length) (h0 : 0 ≤ L[k]?.getD 0) (h1 : L[k]?.getD 0 < 128) (hlt : Leb.val L (k + 1) < 18446744073709551616) :
    bits .or .u64 (Leb.val L k) (IntKind.u64.wrap (L[k]?.getD 0 * 2 ^ (7 * k))) = Leb.val L (k + 1) := by
  have hv0 := Leb.val_nonneg L k
  have hv1 := Leb.val_lt L k
  have e := Leb.val_succ L k hl
  rw [Int.emod_eq_of_lt h0 h1, ← Leb.pow7, Int.mul_comm] at e
  rw [← Leb.pow7] at hv1
  rw [e] at hlt ⊢
  have hp := Leb.pow2_pos (7 * k)
  have hm := Int.mul_nonneg (Int.le_of_lt hp) h0
  rw [Int.mul_comm, IntKind.wrap_u64, Int.emod_eq_of_lt hm (by omega)]
  exact or_sum (7 * k) _ _ hv0 hv1 h0 (by omega) (by omega)

theorem or_S (v g : Int) (k : Nat) (hk : 7 * k ≤ 63) (hv0 : 0 ≤ v) (hv : v < 2 ^ (7 * k))
    (hlo : -9223372036854775808 ≤ v + 2 ^ (7 * k) * g) (hhi : v + 2 ^ (7 * k) * g < 9223372036854775808) :
    wrap64 (bits .or .u64 v (IntKind.u64.wrap (IntKind.u64.wrap g * 2 ^ (7 * k)))) = v + 2 ^ (7 * k) * g := by
  have hp := Leb.pow2_pos (7 * k)
  have hr := Leb.pow2_pos (64 - 7 * k)
  have hp63 := pow_le_64 (k := 7 * k) hk
  have hM : (18446744073709551616 : Int) = 2 ^ (7 * k) * 2 ^ (64 - 7 * k) := by
    rw [← Int.pow_add, show 7 * k + (64 - 7 * k) = 64 by omega]; rfl
  have e1 : IntKind.u64.wrap (IntKind.u64.wrap g * 2 ^ (7 * k)) = (2 ^ (7 * k) * g) % 18446744073709551616 := by
    rw [IntKind.wrap_u64, IntKind.wrap_u64, Int.mul_emod, Int.emod_emod_of_dvd _ (Int.dvd_refl _), ← Int.mul_emod, Int.mul_comm]
  have e2 : (2 ^ (7 * k) * g) % 18446744073709551616 = 2 ^ (7 * k) * (g % 2 ^ (64 - 7 * k)) := by
    rw [hM, Int.mul_emod_mul_of_pos _ _ hp]
  have hq0 : 0 ≤ g % 2 ^ (64 - 7 * k) := Int.emod_nonneg _ (by omega)
  rw [e1, e2, or_sum (7 * k) v _ hv0 hv hq0 (by rw [← e2]; omega) (by omega), ← e2]
  generalize 2 ^ (7 * k) * g = X at *
  simp [wrap64]
  omega
end Go.Proofs.Yteacjhmbamcegab
