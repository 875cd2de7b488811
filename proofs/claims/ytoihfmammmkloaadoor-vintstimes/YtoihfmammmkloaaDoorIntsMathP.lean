/-
  Plain mathematics of whole numbers of a width: worths, bits, moves and turns, counts. No program is named here.
-/
import Derived.Lib.BitFns
import Derived.Lib.TrailingZeros
namespace Go.Proofs.YtoihfmammmkloaaDoor.Ints
open Go.Lib (bitLen popAux onesCount ctz ctzFrom)
set_option linter.unusedVariables false

def IsW (w : Nat) : Prop := w = 8 ∨ w = 16 ∨ w = 32 ∨ w = 64

theorem IsW.le {w : Nat} (h : IsW w) : w ≤ 64 := by rcases h with rfl | rfl | rfl | rfl <;> decide
theorem IsW.pos {w : Nat} (h : IsW w) : 0 < w := by rcases h with rfl | rfl | rfl | rfl <;> decide

/-- A number's signed worth. -/
def wo (w : Nat) (a : Int) : Int := if a < 2 ^ (w - 1) then a else a - 2 ^ w

/-! Bit by bit -/

theorem and_half (a b : Nat) : (a &&& b) / 2 = a / 2 &&& b / 2 := by simpa using Nat.and_div_two_pow (n := 1) (a := a) (b := b)
theorem or_half (a b : Nat) : (a ||| b) / 2 = a / 2 ||| b / 2 := by simpa using Nat.or_div_two_pow (n := 1) (a := a) (b := b)
theorem xor_half (a b : Nat) : (a ^^^ b) / 2 = a / 2 ^^^ b / 2 := by simpa using Nat.xor_div_two_pow (n := 1) (a := a) (b := b)
theorem and_low (a b : Nat) : (a &&& b) % 2 = a % 2 * (b % 2) := by
  have h := Nat.and_mod_two_pow (n := 1) (a := a) (b := b)
  simp only [Nat.pow_one] at h
  rw [h]
  rcases Nat.mod_two_eq_zero_or_one a with e | e <;> rcases Nat.mod_two_eq_zero_or_one b with f | f <;> rw [e, f] <;> decide
theorem or_low (a b : Nat) : (a ||| b) % 2 = a % 2 + b % 2 - a % 2 * (b % 2) := by
  have h := Nat.or_mod_two_pow (n := 1) (a := a) (b := b)
  simp only [Nat.pow_one] at h
  rw [h]
  rcases Nat.mod_two_eq_zero_or_one a with e | e <;> rcases Nat.mod_two_eq_zero_or_one b with f | f <;> rw [e, f] <;> decide
theorem xor_low (a b : Nat) : (a ^^^ b) % 2 = (a + b) % 2 := by
  have h := Nat.xor_mod_two_pow (n := 1) (a := a) (b := b)
  simp only [Nat.pow_one] at h
  rw [h, Nat.add_mod]
  rcases Nat.mod_two_eq_zero_or_one a with e | e <;> rcases Nat.mod_two_eq_zero_or_one b with f | f <;> rw [e, f] <;> decide

/-- A sum is the bits of one alone, and the common ones twice; 'or' is both together. -/
theorem add_bits : ∀ n a b : Nat, a ≤ n → a + b = (a ^^^ b) + 2 * (a &&& b) ∧ a ||| b = (a ^^^ b) + (a &&& b)
  | 0, a, b, h => by
    have : a = 0 := by omega
    subst this; simp
  | n + 1, a, b, h => by
    by_cases h0 : a = 0
    · subst h0; simp
    · obtain ⟨h1, h2⟩ := add_bits n (a / 2) (b / 2) (by omega)
      rw [← and_half, ← xor_half] at h1 h2
      rw [← or_half] at h2
      have l1 := and_low a b
      have l2 := or_low a b
      have l3 := xor_low a b
      rcases Nat.mod_two_eq_zero_or_one a with e | e <;> rcases Nat.mod_two_eq_zero_or_one b with f | f <;> rw [e, f] at l1 l2 <;> omega

theorem add_eq_bits (a b : Nat) : a + b = (a ^^^ b) + 2 * (a &&& b) := (add_bits a a b (Nat.le_refl _)).1
theorem or_eq_bits (a b : Nat) : a ||| b = (a ^^^ b) + (a &&& b) := (add_bits a a b (Nat.le_refl _)).2

/-- The mean, rounded up. -/
theorem mean_bits (a b : Nat) : (a ||| b) - (a ^^^ b) / 2 = (a + b + 1) / 2 := by
  have h1 := add_eq_bits a b
  have h2 := or_eq_bits a b
  omega

/-- Bit i of x. -/
def bit (x i : Nat) : Nat := x / 2 ^ i % 2

theorem bit_le (x i : Nat) : bit x i ≤ 1 := by unfold bit; omega

theorem mod_succ (x i : Nat) : x % 2 ^ (i + 1) = x % 2 ^ i + 2 ^ i * bit x i := Nat.mod_pow_succ

theorem bit_and (a b i : Nat) : bit (a &&& b) i = bit a i * bit b i := by
  unfold bit; rw [Nat.and_div_two_pow, and_low]
theorem bit_or (a b i : Nat) : bit (a ||| b) i = bit a i + bit b i - bit a i * bit b i := by
  unfold bit; rw [Nat.or_div_two_pow, or_low]
theorem bit_xor (a b i : Nat) : bit (a ^^^ b) i = (bit a i + bit b i) % 2 := by
  unfold bit; rw [Nat.xor_div_two_pow, xor_low]; omega

theorem bit_shr (a n i : Nat) : bit (a / 2 ^ n) i = bit a (i + n) := by
  unfold bit; rw [Nat.div_div_eq_div_mul, ← Nat.pow_add, Nat.add_comm n i]

theorem bit_shl_lo (a n i : Nat) (h : i < n) : bit (a * 2 ^ n) i = 0 := by
  unfold bit
  obtain ⟨k, rfl⟩ : ∃ k, n = i + (k + 1) := ⟨n - i - 1, by omega⟩
  have : a * 2 ^ (i + (k + 1)) = (a * 2 ^ k * 2) * 2 ^ i := by
    rw [Nat.pow_add, Nat.pow_succ, Nat.mul_comm (2 ^ i)]
    simp only [Nat.mul_assoc]
  rw [this, Nat.mul_div_cancel _ (Nat.two_pow_pos i)]
  omega

theorem bit_shl_hi (a n i : Nat) (h : n ≤ i) : bit (a * 2 ^ n) i = bit a (i - n) := by
  unfold bit
  obtain ⟨k, rfl⟩ : ∃ k, i = n + k := ⟨i - n, by omega⟩
  rw [Nat.add_sub_cancel_left, Nat.pow_add, ← Nat.div_div_eq_div_mul, Nat.mul_div_cancel _ (Nat.two_pow_pos n)]

theorem bit_mod (a n i : Nat) (h : i < n) : bit (a % 2 ^ n) i = bit a i := by
  unfold bit
  obtain ⟨k, rfl⟩ : ∃ k, n = i + (k + 1) := ⟨n - i - 1, by omega⟩
  rw [Nat.pow_add, Nat.mod_mul_right_div_self, Nat.pow_succ, Nat.mul_comm, Nat.mod_mul_right_mod]

theorem bit_high (a n i : Nat) (ha : a < 2 ^ n) (h : n ≤ i) : bit a i = 0 := by
  unfold bit
  have := Nat.pow_le_pow_right (show 0 < 2 by decide) h
  rw [Nat.div_eq_of_lt (by omega)]

/-- A number below 2^m, and one above: bit by bit. -/
theorem bit_add_lo (x y m i : Nat) (h : i < m) : bit (x + y * 2 ^ m) i = bit x i := by
  rw [← bit_mod _ m i h, Nat.add_mul_mod_self_right, bit_mod _ m i h]

theorem bit_add_hi (x y m i : Nat) (hx : x < 2 ^ m) (h : m ≤ i) : bit (x + y * 2 ^ m) i = bit y (i - m) := by
  obtain ⟨k, rfl⟩ : ∃ k, i = m + k := ⟨i - m, by omega⟩
  unfold bit
  rw [Nat.add_sub_cancel_left, Nat.pow_add, ← Nat.div_div_eq_div_mul, Nat.add_mul_div_right _ _ (Nat.two_pow_pos m), Nat.div_eq_of_lt hx, Nat.zero_add]

/-! Moves and turns -/

/-- What a turn upward by n makes of a. -/
def rotl (w a n : Nat) : Nat := a * 2 ^ n % 2 ^ w + a / 2 ^ (w - n)
def rotr (w a n : Nat) : Nat := a / 2 ^ n + a * 2 ^ (w - n) % 2 ^ w

theorem shl_mod (a w n : Nat) (h : n ≤ w) : a * 2 ^ n % 2 ^ w = a % 2 ^ (w - n) * 2 ^ n := by
  obtain ⟨k, rfl⟩ : ∃ k, w = k + n := ⟨w - n, by omega⟩
  rw [Nat.add_sub_cancel, Nat.pow_add, Nat.mul_mod_mul_right]

theorem shr_lt (a w n : Nat) (ha : a < 2 ^ w) (h : n ≤ w) : a / 2 ^ (w - n) < 2 ^ n := by
  rw [Nat.div_lt_iff_lt_mul (Nat.two_pow_pos _), ← Nat.pow_add]
  rwa [show n + (w - n) = w by omega]

theorem rotl_eq (w a n : Nat) (h : n ≤ w) : rotl w a n = a / 2 ^ (w - n) + a % 2 ^ (w - n) * 2 ^ n := by
  unfold rotl; rw [shl_mod _ _ _ h, Nat.add_comm]

theorem rotr_eq (w a n : Nat) (h : n ≤ w) : rotr w a n = a / 2 ^ n + a % 2 ^ n * 2 ^ (w - n) := by
  unfold rotr; rw [shl_mod _ _ _ (Nat.sub_le _ _), show w - (w - n) = n by omega]

theorem rotr_rotl (w a n : Nat) (ha : a < 2 ^ w) (h : n ≤ w) : rotr w (rotl w a n) n = a := by
  have hl := shr_lt a w n ha h
  rw [rotl_eq _ _ _ h, rotr_eq _ _ _ h, Nat.add_mul_div_right _ _ (Nat.two_pow_pos n), Nat.div_eq_of_lt hl, Nat.add_mul_mod_self_right, Nat.mod_eq_of_lt hl, Nat.zero_add, Nat.add_comm, Nat.mul_comm]
  exact Nat.div_add_mod _ _

theorem join_lt (x y n w : Nat) (hx : x < 2 ^ n) (hn : n ≤ w) (hy : y < 2 ^ (w - n)) : x + y * 2 ^ n < 2 ^ w := by
  have : (y + 1) * 2 ^ n ≤ 2 ^ (w - n) * 2 ^ n := Nat.mul_le_mul_right _ hy
  rw [← Nat.pow_add, show w - n + n = w by omega, Nat.add_mul] at this
  omega

theorem rotl_lt (w a n : Nat) (ha : a < 2 ^ w) (h : n ≤ w) : rotl w a n < 2 ^ w := by
  rw [rotl_eq _ _ _ h]
  exact join_lt _ _ _ _ (shr_lt a w n ha h) h (Nat.mod_lt _ (Nat.two_pow_pos _))

theorem rotr_lt (w a n : Nat) (ha : a < 2 ^ w) (h : n ≤ w) : rotr w a n < 2 ^ w := by
  rw [rotr_eq _ _ _ h]
  have := shr_lt a w (w - n) ha (Nat.sub_le _ _)
  rw [show w - (w - n) = n by omega] at this
  refine join_lt _ _ _ _ this (Nat.sub_le _ _) ?_
  rw [show w - (w - n) = n by omega]
  exact Nat.mod_lt _ (Nat.two_pow_pos _)

/-- Where bit i of a turn comes from. -/
theorem bit_rotl (w a n i : Nat) (ha : a < 2 ^ w) (h : n ≤ w) (hi : i < w) : bit (rotl w a n) i = bit a ((i + (w - n)) % w) := by
  have hl := shr_lt a w n ha (by omega)
  rw [rotl_eq _ _ _ (by omega)]
  by_cases c : i < n
  · rw [bit_add_lo _ _ _ _ c, bit_shr, Nat.mod_eq_of_lt (by omega)]
  · rw [bit_add_hi _ _ _ _ hl (by omega), bit_mod _ _ _ (by omega)]
    congr 1
    have : i + (w - n) = (i - n) + w := by omega
    rw [this, Nat.add_mod_right, Nat.mod_eq_of_lt (by omega)]

theorem bit_rotr (w a n i : Nat) (ha : a < 2 ^ w) (h : n < w) (hi : i < w) : bit (rotr w a n) i = bit a ((i + n) % w) := by
  rw [rotr_eq _ _ _ (by omega)]
  have hl : a / 2 ^ n < 2 ^ (w - n) := by
    have := shr_lt a w (w - n) ha (Nat.sub_le _ _)
    rwa [show w - (w - n) = n by omega] at this
  by_cases c : i < w - n
  · rw [bit_add_lo _ _ _ _ c, bit_shr, Nat.mod_eq_of_lt (by omega)]
  · rw [bit_add_hi _ _ _ _ hl (by omega), bit_mod _ _ _ (by omega)]
    congr 1
    have : i + n = (i - (w - n)) + w := by omega
    rw [this, Nat.add_mod_right, Nat.mod_eq_of_lt (by omega)]

/-- A move downward with the highest bit repeated. -/
def sar (w a n : Nat) : Nat := a / 2 ^ n + (if a < 2 ^ (w - 1) then 0 else (2 ^ n - 1) * 2 ^ (w - n))

theorem top_bit (w a : Nat) (hw : 0 < w) (ha : a < 2 ^ w) : bit a (w - 1) = if a < 2 ^ (w - 1) then 0 else 1 := by
  split
  · next h => exact bit_high _ _ _ h (Nat.le_refl _)
  · next h =>
    unfold bit
    have e : 2 ^ w = 2 ^ (w - 1) * 2 := by rw [← Nat.pow_succ]; congr 1; omega
    have : a / 2 ^ (w - 1) = 1 := by
      apply Nat.div_eq_of_lt_le <;> omega
    rw [this]

theorem bit_ones (n i : Nat) (h : i < n) : bit (2 ^ n - 1) i = 1 := by
  have := Nat.testBit_two_pow_sub_one n i
  rw [Nat.testBit_eq_decide_div_mod_eq] at this
  simp [h] at this
  exact this

theorem bit_sar (w a n i : Nat) (hw : 0 < w) (ha : a < 2 ^ w) (h : n < w) (hi : i < w) : bit (sar w a n) i = bit a (if i + n < w then i + n else w - 1) := by
  unfold sar
  have hl : a / 2 ^ n < 2 ^ (w - n) := by
    have := shr_lt a w (w - n) ha (Nat.sub_le _ _)
    rwa [show w - (w - n) = n by omega] at this
  have ht := top_bit w a hw ha
  by_cases c : i + n < w
  · rw [if_pos c]
    split
    · rw [Nat.add_zero, bit_shr]
    · rw [bit_add_lo _ _ _ _ (by omega), bit_shr]
  · rw [if_neg c, ht]
    split
    · rw [Nat.add_zero, bit_shr, bit_high a w _ ha (by omega)]
    · rw [bit_add_hi _ _ _ _ hl (by omega), bit_ones _ _ (by omega)]

theorem sar_lt (w a n : Nat) (ha : a < 2 ^ w) (h : n < w) : sar w a n < 2 ^ w := by
  unfold sar
  have hl : a / 2 ^ n < 2 ^ (w - n) := by
    have := shr_lt a w (w - n) ha (Nat.sub_le _ _)
    rwa [show w - (w - n) = n by omega] at this
  split
  · rw [Nat.add_zero]
    exact Nat.lt_of_lt_of_le hl (Nat.pow_le_pow_right (by decide) (Nat.sub_le _ _))
  · refine join_lt _ _ _ _ hl (Nat.sub_le _ _) ?_
    rw [show w - (w - n) = n by omega]
    have := Nat.two_pow_pos n
    omega

theorem sar_int (w x n : Nat) (hw : 0 < w) (hx : x < 2 ^ w) (hn : n < w) : (wo w (x : Int) / 2 ^ n) % 2 ^ w = (sar w x n : Int) := by
  have hs := sar_lt w x n hx hn
  have hp : (0 : Int) < 2 ^ n := by exact_mod_cast Nat.two_pow_pos n
  have e2 : (2 : Int) ^ w = 2 ^ (w - n) * 2 ^ n := by rw [← Int.pow_add]; congr 1; omega
  have hc : ((2 ^ (w - 1) : Nat) : Int) = (2 : Int) ^ (w - 1) := by simp
  have hcw : ((2 ^ w : Nat) : Int) = (2 : Int) ^ w := by simp
  have hd : (x : Int) / 2 ^ n = ((x / 2 ^ n : Nat) : Int) := by simp
  have key : wo w (x : Int) / 2 ^ n = (sar w x n : Int) - (if x < 2 ^ (w - 1) then 0 else 2 ^ w) := by
    unfold wo sar
    by_cases c : x < 2 ^ (w - 1)
    · have c' : (x : Int) < 2 ^ (w - 1) := by rw [← hc]; exact_mod_cast c
      rw [if_pos c', if_pos c, if_pos c, hd]
      simp
    · have c' : ¬ (x : Int) < 2 ^ (w - 1) := by rw [← hc]; omega
      rw [if_neg c', if_neg c, if_neg c]
      have e3 : (x : Int) - 2 ^ w = (x : Int) + (-(2 ^ (w - n))) * 2 ^ n := by rw [e2, Int.neg_mul]; rfl
      rw [e3, Int.add_mul_ediv_right _ _ (by omega), hd]
      have h1 : (1 : Nat) ≤ 2 ^ n := Nat.two_pow_pos n
      have e4 : (((2 ^ n - 1) * 2 ^ (w - n) : Nat) : Int) = 2 ^ w - 2 ^ (w - n) := by
        rw [Nat.sub_mul, Nat.one_mul, ← Nat.pow_add, show n + (w - n) = w by omega]
        have : 2 ^ (w - n) ≤ 2 ^ w := Nat.pow_le_pow_right (by decide) (Nat.sub_le _ _)
        rw [Int.natCast_sub this]
        simp
      rw [Int.natCast_add, e4]
      omega
  rw [key]
  have hs' : (sar w x n : Int) < 2 ^ w := by rw [← hcw]; exact_mod_cast hs
  split
  · rw [Int.sub_zero]
    exact Int.emod_eq_of_lt (by omega) hs'
  · have : ((sar w x n : Int) - 2 ^ w) % 2 ^ w = (sar w x n : Int) % 2 ^ w := by
      rw [Int.sub_emod_right]
    rw [this]
    exact Int.emod_eq_of_lt (by omega) hs'
end Go.Proofs.YtoihfmammmkloaaDoor.Ints
