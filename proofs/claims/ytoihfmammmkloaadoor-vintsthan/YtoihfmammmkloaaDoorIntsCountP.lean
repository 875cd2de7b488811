/-
  Plain mathematics of counts of bits: how many are 1, how many 0 stand above and below; the machine's way to count. No program is named here.
-/
import Derived.Test.YtoihfmammmkloaaDoorIntsMathP
namespace Go.Proofs.YtoihfmammmkloaaDoor.Ints
open Go.Lib (bitLen popAux onesCount ctz ctzFrom)
set_option linter.unusedVariables false

/-! How many are 1 -/

theorem pop_succ : ∀ (k x : Nat), popAux (k + 1) x = popAux k x + bit x k
  | 0, x => by simp [popAux, bit]
  | k + 1, x => by
    rw [popAux, pop_succ k (x / 2)]
    rw [popAux]
    unfold bit
    have e : x / 2 / 2 ^ k = x / 2 ^ (k + 1) := by rw [Nat.div_div_eq_div_mul, Nat.pow_succ']
    rw [e]
    omega

theorem pop_zero : ∀ k, popAux k 0 = 0
  | 0 => rfl
  | k + 1 => by rw [popAux]; simp [pop_zero k]

theorem pop_more : ∀ (k d x : Nat), x < 2 ^ k → popAux (k + d) x = popAux k x
  | k, 0, x, h => rfl
  | k, d + 1, x, h => by
    rw [← Nat.add_assoc, pop_succ, pop_more k d x h, bit_high x k (k + d) h (by omega), Nat.add_zero]

theorem ones_eq (w x : Nat) (hw : w ≤ 64) (h : x < 2 ^ w) : onesCount x = popAux w x := by
  obtain ⟨d, e⟩ : ∃ d, 64 = w + d := ⟨64 - w, by omega⟩
  unfold onesCount
  rw [e, pop_more _ _ _ h]

theorem pop_le : ∀ (k x : Nat), popAux k x ≤ k
  | 0, x => Nat.le_refl _
  | k + 1, x => by have := pop_le k (x / 2); rw [popAux]; omega

theorem pop_split : ∀ (j k x : Nat), popAux (j + k) x = popAux j (x % 2 ^ j) + popAux k (x / 2 ^ j)
  | 0, k, x => by simp [popAux]
  | j + 1, k, x => by
    rw [Nat.add_right_comm, popAux, pop_split j k (x / 2), popAux]
    rw [Nat.div_div_eq_div_mul, ← Nat.pow_succ', Nat.pow_succ', Nat.mod_mul_right_div_self, Nat.mod_mul_right_mod]
    omega

/-- The others: each bit the other one. -/
theorem pop_not : ∀ (w x : Nat), x < 2 ^ w → popAux w x + popAux w (2 ^ w - 1 - x) = w
  | 0, x, h => rfl
  | w + 1, x, h => by
    have hp := Nat.pow_succ' (m := 2) (n := w)
    have ih := pop_not w (x / 2) (by omega)
    rw [popAux, popAux]
    have e : (2 ^ (w + 1) - 1 - x) / 2 = 2 ^ w - 1 - x / 2 := by omega
    have e2 : (2 ^ (w + 1) - 1 - x) % 2 = 1 - x % 2 := by omega
    rw [e, e2]
    omega

/-! Lengths -/

theorem len_at (x i : Nat) (hi : i < 64) (h0 : 2 ^ i ≤ x) (h1 : x < 2 ^ (i + 1)) : bitLen x = i + 1 := by
  have h64 : 2 ^ (i + 1) ≤ 2 ^ 64 := Nat.pow_le_pow_right (by decide) (by omega)
  rw [Lib.bitLen_shift i x h0 (by omega)]
  have : x / 2 ^ i = 1 := by
    rw [Nat.pow_succ] at h1
    apply Nat.div_eq_of_lt_le <;> omega
  rw [this]; rfl

theorem len_zero : bitLen 0 = 0 := rfl

theorem len_pos (x : Nat) (h : x < 2 ^ 64) (h0 : x ≠ 0) : 1 ≤ bitLen x := by rw [Lib.bitLen_half x h0 h]; omega

/-! What stands below the lowest 1 -/

theorem ctz_at (f i m : Nat) (x : Nat) (hx : x = 2 ^ i * (2 * m + 1)) (h : x < 2 ^ f) : ctz f x = i := by
  have h0 : 0 < x := by rw [hx]; exact Nat.mul_pos (Nat.two_pow_pos _) (by omega)
  unfold ctz
  rw [if_neg (by omega)]
  obtain ⟨m', e, _⟩ := Lib.ctzFrom_spec f x h0 h
  generalize ctzFrom f x = j at *
  rw [hx] at e
  rcases Nat.lt_trichotomy i j with c | c | c
  · obtain ⟨d, rfl⟩ : ∃ d, j = i + (d + 1) := ⟨j - i - 1, by omega⟩
    rw [Nat.pow_add, Nat.mul_assoc] at e
    have := Nat.eq_of_mul_eq_mul_left (Nat.two_pow_pos i) e
    rw [Nat.pow_succ, Nat.mul_comm (2 ^ d) 2, Nat.mul_assoc] at this
    omega
  · exact c.symm
  · obtain ⟨d, rfl⟩ : ∃ d, i = j + (d + 1) := ⟨i - j - 1, by omega⟩
    rw [Nat.pow_add, Nat.mul_assoc] at e
    have := Nat.eq_of_mul_eq_mul_left (Nat.two_pow_pos j) e
    rw [Nat.pow_succ, Nat.mul_comm (2 ^ d) 2, Nat.mul_assoc] at this
    omega

/-- All below i are 0, and bit i is 1. -/
theorem ctz_bit (f i x : Nat) (h : x < 2 ^ f) (h0 : x % 2 ^ i = 0) (h1 : bit x i = 1) : ctz f x = i := by
  unfold bit at h1
  refine ctz_at f i (x / 2 ^ i / 2) x ?_ h
  have : 2 * (x / 2 ^ i / 2) + 1 = x / 2 ^ i := by omega
  rw [this]
  have := Nat.div_add_mod x (2 ^ i)
  omega

/-- Counts together: those below the lowest 1, and how many are 1, are not above the length. -/
theorem ctz_pop (x : Nat) (h : x < 2 ^ 64) (h0 : x ≠ 0) : ctz 64 x + onesCount x ≤ bitLen x := by
  have key : ∀ (f k x : Nat), x < 2 ^ k → k ≤ f → x ≠ 0 → ctz f x + popAux k x ≤ k := by
    intro f k x hx hk h0
    have hxf : x < 2 ^ f := Nat.lt_of_lt_of_le hx (Nat.pow_le_pow_right (by decide) hk)
    obtain ⟨m, e, hlt⟩ := Lib.ctzFrom_spec f x (by omega) hxf
    have e2 : ctz f x = ctzFrom f x := by unfold ctz; rw [if_neg h0]
    rw [e2]
    generalize ctzFrom f x = j at *
    have hj : 2 ^ j ≤ x := by
      rw [e]; exact Nat.le_mul_of_pos_right _ (by omega)
    have hjk : j < k := by
      have : 2 ^ j < 2 ^ k := by omega
      exact (Nat.pow_lt_pow_iff_right (by decide)).mp this
    obtain ⟨d, rfl⟩ : ∃ d, k = j + d := ⟨k - j, by omega⟩
    rw [pop_split]
    have : x % 2 ^ j = 0 := by rw [e, Nat.mul_mod_right]
    rw [this, pop_zero]
    have := pop_le d (x / 2 ^ j)
    omega
  obtain ⟨k, hk, hk1, hk2⟩ : ∃ k, k < 64 ∧ 2 ^ k ≤ x ∧ x < 2 ^ (k + 1) := by
    have : ∀ n, x < 2 ^ n → n ≤ 64 → ∃ k, k < 64 ∧ 2 ^ k ≤ x ∧ x < 2 ^ (k + 1) := by
      intro n
      induction n with
      | zero => intro h; simp at h; omega
      | succ n ih =>
        intro h hn
        by_cases c : x < 2 ^ n
        · exact ih c (by omega)
        · exact ⟨n, by omega, by omega, h⟩
    exact this 64 h (Nat.le_refl _)
  rw [len_at x k hk hk1 hk2, ones_eq (k + 1) x (by omega) hk2]
  exact key 64 (k + 1) x hk2 (by omega) h0

/-! The machine's count of what is 1: bits.OnesCount64 -/

theorem and_byte (q b m c : Nat) (hb : b < 256) (hc : c < 256) : (256 * q + b) &&& (256 * m + c) = 256 * (q &&& m) + (b &&& c) := by
  have h1 : ((256 * q + b) &&& (256 * m + c)) / 2 ^ 8 = q &&& m := by
    rw [Nat.and_div_two_pow]; congr 1 <;> omega
  have h2 : ((256 * q + b) &&& (256 * m + c)) % 2 ^ 8 = b &&& c := by
    rw [Nat.and_mod_two_pow]
    have e1 : (256 * q + b) % 2 ^ 8 = b := by omega
    have e2 : (256 * m + c) % 2 ^ 8 = c := by omega
    rw [e1, e2]
  omega

def s1 (m x : Nat) : Nat := (x / 2 &&& m) + (x &&& m)
def s2 (m x : Nat) : Nat := (x / 4 &&& m) + (x &&& m)
def s3 (m x : Nat) : Nat := (x / 16 + x) &&& m

def b1 (b : Nat) : Nat := (b / 2 &&& 85) + (b &&& 85)
def b2 (b : Nat) : Nat := (b / 4 &&& 51) + (b &&& 51)
def b3 (b : Nat) : Nat := (b / 16 + b) % 16

theorem b1_lt : ∀ b : Fin 256, b1 b.val < 256 ∧ b2 (b1 b.val) ≤ 68 ∧ b2 (b1 b.val) % 16 ≤ 4 ∧ b3 (b2 (b1 b.val)) = popAux 8 b.val := by decide +kernel

theorem half_mask : ∀ b : Fin 256, (128 + b.val / 2) &&& 85 = b.val / 2 &&& 85 := by decide +kernel
theorem quart_mask : ∀ b : Fin 256, ∀ r : Fin 4, (64 * r.val + b.val / 4) &&& 51 = b.val / 4 &&& 51 := by decide +kernel

theorem s1_step (m q b : Nat) (hb : b < 256) : s1 (256 * m + 85) (256 * q + b) = 256 * s1 m q + b1 b := by
  unfold s1 b1
  rw [and_byte q b m 85 hb (by decide)]
  have e : (256 * q + b) / 2 = 256 * (q / 2) + (128 * (q % 2) + b / 2) := by omega
  rw [e, and_byte _ _ m 85 (by omega) (by decide)]
  have : 128 * (q % 2) + b / 2 &&& 85 = b / 2 &&& 85 := by
    rcases Nat.mod_two_eq_zero_or_one q with c | c <;> rw [c]
    · rw [Nat.mul_zero, Nat.zero_add]
    · exact half_mask ⟨b, hb⟩
  rw [this]
  omega

theorem s2_step (m q b : Nat) (hb : b < 256) : s2 (256 * m + 51) (256 * q + b) = 256 * s2 m q + b2 b := by
  unfold s2 b2
  rw [and_byte q b m 51 hb (by decide)]
  have e : (256 * q + b) / 4 = 256 * (q / 4) + (64 * (q % 4) + b / 4) := by omega
  rw [e, and_byte _ _ m 51 (by omega) (by decide)]
  have : 64 * (q % 4) + b / 4 &&& 51 = b / 4 &&& 51 := quart_mask ⟨b, hb⟩ ⟨q % 4, by omega⟩
  rw [this]
  omega

theorem and15 (x : Nat) : x &&& 15 = x % 16 := Nat.and_two_pow_sub_one_eq_mod x 4

theorem s3_step (m q b : Nat) (hb : b ≤ 68) (hq : q % 16 ≤ 4) : s3 (256 * m + 15) (256 * q + b) = 256 * s3 m q + b3 b := by
  unfold s3 b3
  have e : (256 * q + b) / 16 + (256 * q + b) = 256 * (q / 16 + q) + (16 * (q % 16) + (b / 16 + b)) := by omega
  rw [e, and_byte _ _ m 15 (by omega) (by decide), and15]
  omega

theorem s1_zero (x : Nat) : s1 0 x = 0 := by simp [s1]
theorem s2_zero (x : Nat) : s2 0 x = 0 := by simp [s2]
theorem s3_zero (x : Nat) : s3 0 x = 0 := by simp [s3]

/-- The masks of k bytes. -/
def rep (c : Nat) : Nat → Nat
  | 0 => 0
  | k + 1 => 256 * rep c k + c

/-- Bytes, each by its count. -/
def sums : Nat → Nat → Nat
  | 0, _ => 0
  | k + 1, x => 256 * sums k (x / 256) + popAux 8 (x % 256)

theorem s_all : ∀ (k x : Nat), x < 256 ^ k → s3 (rep 15 k) (s2 (rep 51 k) (s1 (rep 85 k) x)) = sums k x ∧ s2 (rep 51 k) (s1 (rep 85 k) x) % 16 ≤ 4
  | 0, x, h => by simp [rep, s3_zero, s2_zero, sums]
  | k + 1, x, h => by
    have hx : x = 256 * (x / 256) + x % 256 := by omega
    have hb : x % 256 < 256 := by omega
    rw [Nat.pow_succ] at h
    obtain ⟨ih, ih2⟩ := s_all k (x / 256) (by omega)
    obtain ⟨c1, c2, c3, c4⟩ := b1_lt ⟨x % 256, hb⟩
    simp only [] at c1 c2 c3 c4
    have e : s2 (rep 51 (k + 1)) (s1 (rep 85 (k + 1)) x) = 256 * s2 (rep 51 k) (s1 (rep 85 k) (x / 256)) + b2 (b1 (x % 256)) := by
      rw [rep, rep]
      conv => lhs; rw [hx, s1_step _ _ _ hb, s2_step _ _ _ c1]
    rw [e, show rep 15 (k + 1) = 256 * rep 15 k + 15 from rfl, s3_step _ _ _ c2 ih2, ih, c4]
    exact ⟨rfl, by omega⟩

theorem rep85 : rep 85 8 = 6148914691236517205 := rfl
theorem rep51 : rep 51 8 = 3689348814741910323 := rfl
theorem rep15 : rep 15 8 = 1085102592571150095 := rfl

theorem div_of (n q r c : Nat) (h : n = r + c * q) (hr : r < c) : n / c = q := by
  rw [h, Nat.add_mul_div_left _ _ (by omega), Nat.div_eq_of_lt hr, Nat.zero_add]

theorem y_a (p0 p1 p2 p3 p4 p5 p6 p7 : Nat) : p0 + 256 * p1 + 65536 * p2 + 16777216 * p3 + 4294967296 * p4 + 1099511627776 * p5 + 281474976710656 * p6 + 72057594037927936 * p7 = p0 + 256 * (p1 + 256 * p2 + 65536 * p3 + 16777216 * p4 + 4294967296 * p5 + 1099511627776 * p6 + 281474976710656 * p7) := by omega
theorem y_b (p0 p1 p2 p3 p4 p5 p6 p7 : Nat) : p0 + 256 * p1 + 65536 * p2 + 16777216 * p3 + 4294967296 * p4 + 1099511627776 * p5 + 281474976710656 * p6 + 72057594037927936 * p7 + (p1 + 256 * p2 + 65536 * p3 + 16777216 * p4 + 4294967296 * p5 + 1099511627776 * p6 + 281474976710656 * p7) = (p0 + p1) + 256 * (p1 + p2) + 65536 * (p2 + p3) + 16777216 * (p3 + p4) + 4294967296 * (p4 + p5) + 1099511627776 * (p5 + p6) + 281474976710656 * (p6 + p7) + 72057594037927936 * p7 := by omega
theorem y_c (p0 p1 p2 p3 p4 p5 p6 p7 : Nat) : (p0 + p1) + 256 * (p1 + p2) + 65536 * (p2 + p3) + 16777216 * (p3 + p4) + 4294967296 * (p4 + p5) + 1099511627776 * (p5 + p6) + 281474976710656 * (p6 + p7) + 72057594037927936 * p7 = ((p0 + p1) + 256 * (p1 + p2)) + 65536 * ((p2 + p3) + 256 * (p3 + p4) + 65536 * (p4 + p5) + 16777216 * (p5 + p6) + 4294967296 * (p6 + p7) + 1099511627776 * p7) := by omega
theorem y_d (p0 p1 p2 p3 p4 p5 p6 p7 : Nat) : (p0 + p1) + 256 * (p1 + p2) + 65536 * (p2 + p3) + 16777216 * (p3 + p4) + 4294967296 * (p4 + p5) + 1099511627776 * (p5 + p6) + 281474976710656 * (p6 + p7) + 72057594037927936 * p7 + ((p2 + p3) + 256 * (p3 + p4) + 65536 * (p4 + p5) + 16777216 * (p5 + p6) + 4294967296 * (p6 + p7) + 1099511627776 * p7) = (p0 + p1 + p2 + p3) + 256 * (p1 + p2 + p3 + p4) + 65536 * (p2 + p3 + p4 + p5) + 16777216 * (p3 + p4 + p5 + p6) + 4294967296 * (p4 + p5 + p6 + p7) + 1099511627776 * (p5 + p6 + p7) + 281474976710656 * (p6 + p7) + 72057594037927936 * p7 := by omega
theorem y_e (p0 p1 p2 p3 p4 p5 p6 p7 : Nat) : (p0 + p1 + p2 + p3) + 256 * (p1 + p2 + p3 + p4) + 65536 * (p2 + p3 + p4 + p5) + 16777216 * (p3 + p4 + p5 + p6) + 4294967296 * (p4 + p5 + p6 + p7) + 1099511627776 * (p5 + p6 + p7) + 281474976710656 * (p6 + p7) + 72057594037927936 * p7 = ((p0 + p1 + p2 + p3) + 256 * (p1 + p2 + p3 + p4) + 65536 * (p2 + p3 + p4 + p5) + 16777216 * (p3 + p4 + p5 + p6)) + 4294967296 * ((p4 + p5 + p6 + p7) + 256 * (p5 + p6 + p7) + 65536 * (p6 + p7) + 16777216 * p7) := by omega
theorem y_f (p0 p1 p2 p3 p4 p5 p6 p7 : Nat) : (p0 + p1 + p2 + p3) + 256 * (p1 + p2 + p3 + p4) + 65536 * (p2 + p3 + p4 + p5) + 16777216 * (p3 + p4 + p5 + p6) + 4294967296 * (p4 + p5 + p6 + p7) + 1099511627776 * (p5 + p6 + p7) + 281474976710656 * (p6 + p7) + 72057594037927936 * p7 + ((p4 + p5 + p6 + p7) + 256 * (p5 + p6 + p7) + 65536 * (p6 + p7) + 16777216 * p7) = p0 + p1 + p2 + p3 + p4 + p5 + p6 + p7 + 128 * (2 * (p1 + p2 + p3 + p4) + 512 * (p2 + p3 + p4 + p5) + 131072 * (p3 + p4 + p5 + p6) + 33554432 * (p4 + p5 + p6 + p7) + 8589934592 * (p5 + p6 + p7) + 2199023255552 * (p6 + p7) + 562949953421312 * p7 + 2 * (p5 + p6 + p7) + 512 * (p6 + p7) + 131072 * p7) := by omega

theorem sums_pop (x : Nat) (h : x < 18446744073709551616) : ∃ y1 y2, sums 8 x + sums 8 x / 256 = y1 ∧ y1 < 18446744073709551616 ∧ y1 + y1 / 65536 = y2 ∧ y2 < 18446744073709551616 ∧ y2 + y2 / 4294967296 < 18446744073709551616 ∧ (y2 + y2 / 4294967296) % 128 = onesCount x := by
  have e : onesCount x = popAux 8 (x % 256) + popAux 8 (x / 256 % 256) + popAux 8 (x / 65536 % 256) + popAux 8 (x / 16777216 % 256) + popAux 8 (x / 4294967296 % 256) + popAux 8 (x / 1099511627776 % 256) + popAux 8 (x / 281474976710656 % 256) + popAux 8 (x / 72057594037927936 % 256) := by
    have s : ∀ k x, popAux (8 + k) x = popAux 8 (x % 256) + popAux k (x / 256) := fun k x => pop_split 8 k x
    unfold onesCount
    rw [show 64 = 8 + (8 + (8 + (8 + (8 + (8 + (8 + (8 + 0))))))) from rfl, s, s, s, s, s, s, s, s]
    simp only [Nat.div_div_eq_div_mul, Nat.reduceMul, popAux]
    omega
  have e2 : sums 8 x = popAux 8 (x % 256) + 256 * popAux 8 (x / 256 % 256) + 65536 * popAux 8 (x / 65536 % 256) + 16777216 * popAux 8 (x / 16777216 % 256) + 4294967296 * popAux 8 (x / 4294967296 % 256) + 1099511627776 * popAux 8 (x / 1099511627776 % 256) + 281474976710656 * popAux 8 (x / 281474976710656 % 256) + 72057594037927936 * popAux 8 (x / 72057594037927936 % 256) := by
    simp only [sums, Nat.div_div_eq_div_mul, Nat.reduceMul]
    omega
  have l := pop_le 8
  rw [e, e2]
  have l0 := l (x % 256); have l1 := l (x / 256 % 256); have l2 := l (x / 65536 % 256); have l3 := l (x / 16777216 % 256)
  have l4 := l (x / 4294967296 % 256); have l5 := l (x / 1099511627776 % 256); have l6 := l (x / 281474976710656 % 256); have l7 := l (x / 72057594037927936 % 256)
  clear e e2 l
  generalize popAux 8 (x % 256) = p0 at *
  generalize popAux 8 (x / 256 % 256) = p1 at *
  generalize popAux 8 (x / 65536 % 256) = p2 at *
  generalize popAux 8 (x / 16777216 % 256) = p3 at *
  generalize popAux 8 (x / 4294967296 % 256) = p4 at *
  generalize popAux 8 (x / 1099511627776 % 256) = p5 at *
  generalize popAux 8 (x / 281474976710656 % 256) = p6 at *
  generalize popAux 8 (x / 72057594037927936 % 256) = p7 at *
  clear h
  have e0 : (p0 + 256 * p1 + 65536 * p2 + 16777216 * p3 + 4294967296 * p4 + 1099511627776 * p5 + 281474976710656 * p6 + 72057594037927936 * p7) / 256 = p1 + 256 * p2 + 65536 * p3 + 16777216 * p4 + 4294967296 * p5 + 1099511627776 * p6 + 281474976710656 * p7 := div_of _ _ p0 _ (y_a ..) (by omega)
  have e2 : ((p0 + p1) + 256 * (p1 + p2) + 65536 * (p2 + p3) + 16777216 * (p3 + p4) + 4294967296 * (p4 + p5) + 1099511627776 * (p5 + p6) + 281474976710656 * (p6 + p7) + 72057594037927936 * p7) / 65536 = (p2 + p3) + 256 * (p3 + p4) + 65536 * (p4 + p5) + 16777216 * (p5 + p6) + 4294967296 * (p6 + p7) + 1099511627776 * p7 := div_of _ _ ((p0 + p1) + 256 * (p1 + p2)) _ (y_c ..) (by clear e0; omega)
  have e4 : ((p0 + p1 + p2 + p3) + 256 * (p1 + p2 + p3 + p4) + 65536 * (p2 + p3 + p4 + p5) + 16777216 * (p3 + p4 + p5 + p6) + 4294967296 * (p4 + p5 + p6 + p7) + 1099511627776 * (p5 + p6 + p7) + 281474976710656 * (p6 + p7) + 72057594037927936 * p7) / 4294967296 = (p4 + p5 + p6 + p7) + 256 * (p5 + p6 + p7) + 65536 * (p6 + p7) + 16777216 * p7 := div_of _ _ ((p0 + p1 + p2 + p3) + 256 * (p1 + p2 + p3 + p4) + 65536 * (p2 + p3 + p4 + p5) + 16777216 * (p3 + p4 + p5 + p6)) _ (y_e ..) (by clear e0 e2; omega)
  refine ⟨(p0 + p1) + 256 * (p1 + p2) + 65536 * (p2 + p3) + 16777216 * (p3 + p4) + 4294967296 * (p4 + p5) + 1099511627776 * (p5 + p6) + 281474976710656 * (p6 + p7) + 72057594037927936 * p7, (p0 + p1 + p2 + p3) + 256 * (p1 + p2 + p3 + p4) + 65536 * (p2 + p3 + p4 + p5) + 16777216 * (p3 + p4 + p5 + p6) + 4294967296 * (p4 + p5 + p6 + p7) + 1099511627776 * (p5 + p6 + p7) + 281474976710656 * (p6 + p7) + 72057594037927936 * p7, ?_, ?_, ?_, ?_, ?_, ?_⟩
  · rw [e0, y_b]
  · clear e0 e2 e4; omega
  · rw [e2, y_d]
  · clear e0 e2 e4; omega
  · rw [e4]; clear e0 e2 e4; omega
  · rw [e4, y_f, Nat.add_mul_mod_self_left]
    exact Nat.mod_eq_of_lt (by clear e0 e2 e4; omega)
end Go.Proofs.YtoihfmammmkloaaDoor.Ints
