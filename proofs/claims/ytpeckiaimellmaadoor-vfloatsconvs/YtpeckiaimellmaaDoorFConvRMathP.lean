/-
  Plain mathematics of the document's way with floats: a sign, a whole number and a power of two; cutting and rounding by whole numbers. No program is named here.
-/
import Derived.Test.YtpeckiaimellmaaDoorFConvMathP
set_option linter.unusedVariables false
set_option linter.unusedSimpArgs false
namespace Go.Proofs.YtpeckiaimellmaaDoor.F.C
open Flo

def fb (w : Nat) : Nat := (fm w).fractionBits
def bi (w : Nat) : Nat := Flo.bias (fm w)
theorem fb32 : fb 32 = 23 := rfl
theorem fb64 : fb 64 = 52 := rfl
theorem bi32 : bi 32 = 127 := by decide
theorem bi64 : bi 64 = 1023 := by decide
theorem lp_is {w : Nat} (hw : IsW w) : (fm w).leastPlace = 1 - (bi w : Int) - fb w := (good w).lp

/-- How many bits. -/
def bl (m : Nat) : Nat := if m = 0 then 0 else m.log2 + 1
theorem bl_half {m : Nat} (h : m ≠ 0) : bl m = bl (m / 2) + 1 := by
  unfold bl
  rw [if_neg h]
  by_cases c : 2 ≤ m
  · rw [if_neg (by omega), Nat.log2_def, if_pos c]
  · rw [if_pos (by omega), Nat.log2_def, if_neg c]
theorem bl_le {m : Nat} (h : m < 2 ^ 64) : bl m ≤ 64 := by
  unfold bl
  split
  · omega
  · rename_i c
    have := (Nat.log2_lt c).2 h
    omega

/-! a float's parts -/

def pm (w a : Nat) : Nat := if rung (fm w) a < (fm w).binade then rung (fm w) a else (fm w).binade + rung (fm w) a % (fm w).binade
def pe (w a : Nat) : Int := if rung (fm w) a < (fm w).binade then 1 - (bi w : Int) - fb w else ((rung (fm w) a / (fm w).binade : Nat) : Int) - bi w - fb w

theorem parts_mval {w a : Nat} (hw : IsW w) : ∃ k : Nat, pe w a = (fm w).leastPlace + k ∧ mval (fm w) (rung (fm w) a) = pm w a * 2 ^ k := by
  have hB := binade_pos (fm w)
  unfold pe pm mval
  rw [lp_is hw]
  by_cases c : rung (fm w) a < (fm w).binade
  · rw [if_pos c, if_pos c, if_pos c]
    exact ⟨0, by omega, by simp⟩
  · rw [if_neg c, if_neg c, if_neg c]
    have h1 : 1 ≤ rung (fm w) a / (fm w).binade := (Nat.le_div_iff_mul_le hB).2 (by omega)
    exact ⟨rung (fm w) a / (fm w).binade - 1, by omega, rfl⟩

theorem pm_lt {w a : Nat} : pm w a < 2 ^ (fb w + 1) := by
  have hB := binade_pos (fm w)
  have := Nat.mod_lt (rung (fm w) a) hB
  have e : 2 ^ (fb w + 1) = 2 * (fm w).binade := by rw [Nat.pow_succ, Nat.mul_comm]; rfl
  unfold pm
  split <;> omega

/-- The worth, cut. -/
def cutT (m : Nat) (e : Int) : Nat := m * 2 ^ e.toNat / 2 ^ (-e).toNat
theorem cutT_eq (m k P : Nat) : m * 2 ^ k / 2 ^ P = cutT m ((k : Int) - P) := by
  unfold cutT
  rcases Nat.lt_or_ge k P with d | d
  · rw [show ((k : Int) - P).toNat = 0 by omega, show (-((k : Int) - P)).toNat = P - k by omega, Nat.pow_zero, Nat.mul_one]
    rw [show P = (P - k) + k by omega, Nat.pow_add, show P - k + k - k = P - k by omega, Nat.mul_div_mul_right _ _ (Nat.two_pow_pos _)]
  · rw [show ((k : Int) - P).toNat = k - P by omega, show (-((k : Int) - P)).toNat = 0 by omega, Nat.pow_zero, Nat.div_one]
    rw [show k = (k - P) + P by omega, Nat.pow_add, show k - P + P - P = k - P by omega, ← Nat.mul_assoc, Nat.mul_div_cancel _ (Nat.two_pow_pos _)]

theorem worth_fin {w a : Nat} (hw : IsW w) (h : rung (fm w) a < (fm w).infRung) : trI (worthN w a) = sgn (neg (fm w) a) (cutT (pm w a) (pe w a)) := by
  obtain ⟨k, e1, e2⟩ := parts_mval (a := a) hw
  rcases hw with rfl | rfl
  · have h' : rung Ieee.single a < Ieee.single.infRung := h
    have hle : rung Ieee.single a ≤ Ieee.single.infRung := by omega
    unfold trI tr worthN
    rw [if_pos rfl, wn_neg hle, wn_rung hle, (prom_worth h').2]
    rw [fm32] at e1 e2
    have hp : points Ieee.double = 149 + gap := by decide +kernel
    rw [e2, unit_pow, fm32, hp]
    generalize gap = g
    rw [Nat.mul_assoc, ← Nat.pow_add, cutT_eq, show ((k + g : Nat) : Int) - ((149 + g : Nat) : Int) = pe 32 a by rw [e1, lp_single]; omega]
  · unfold trI tr worthN
    rw [if_neg (by decide), fm64]
    rw [fm64] at e1 e2
    have hp : (points Ieee.double : Int) = 1074 := by decide +kernel
    rw [e2, unit_pow, cutT_eq, hp, show (k : Int) - 1074 = pe 64 a by rw [e1, lp_double]; omega]

/-! a number times a power of two, rounded to 0 -/

def wholeR (m : Nat) (e : Int) : Nat × Bool :=
  if m = 0 ∨ e ≤ -64 then (0, true) else if e ≤ 0 then (m / 2 ^ (-e).toNat, true) else (m * 2 ^ (min e 63).toNat % 2 ^ 64, decide ((bl m : Int) + e ≤ 64))

theorem wholeR_is {m : Nat} {e : Int} (hm : m < 2 ^ 64) : ((wholeR m e).2 = true ∧ (wholeR m e).1 = cutT m e ∧ cutT m e < 2 ^ 64) ∨ ((wholeR m e).2 = false ∧ 2 ^ 64 ≤ cutT m e) := by
  unfold wholeR cutT
  by_cases c1 : m = 0 ∨ e ≤ -64
  · rw [if_pos c1]
    left
    rcases c1 with rfl | c
    · simp
    · have hl : 2 ^ 64 ≤ 2 ^ (-e).toNat := Nat.pow_le_pow_right (by decide) (by omega)
      have h0 : m / 2 ^ (-e).toNat = 0 := Nat.div_eq_of_lt (Nat.lt_of_lt_of_le hm hl)
      rw [show e.toNat = 0 by omega, Nat.pow_zero, Nat.mul_one, h0]
      decide
  · rw [if_neg c1]
    by_cases c2 : e ≤ 0
    · rw [if_pos c2]
      left
      rw [show e.toNat = 0 by omega, Nat.pow_zero, Nat.mul_one]
      refine ⟨rfl, rfl, Nat.lt_of_le_of_lt (Nat.div_le_self _ _) hm⟩
    · rw [if_neg c2, show (-e).toNat = 0 by omega, Nat.pow_zero, Nat.div_one]
      have h0 : m ≠ 0 := fun h => c1 (.inl h)
      have hb : bl m = m.log2 + 1 := by unfold bl; rw [if_neg h0]
      have hlow := Nat.log2_self_le h0
      have hhi := Nat.lt_log2_self (n := m)
      simp only
      by_cases c3 : (bl m : Int) + e ≤ 64
      · left
        have hlt : m * 2 ^ e.toNat < 2 ^ 64 := by
          refine Nat.lt_of_lt_of_le (Nat.mul_lt_mul_of_pos_right hhi (Nat.two_pow_pos _)) ?_
          rw [← Nat.pow_add]
          exact Nat.pow_le_pow_right (by decide) (by omega)
        rw [show min e 63 = e by omega, Nat.mod_eq_of_lt hlt]
        exact ⟨decide_eq_true c3, rfl, hlt⟩
      · right
        refine ⟨decide_eq_false c3, ?_⟩
        refine Nat.le_trans ?_ (Nat.mul_le_mul_right _ hlow)
        rw [← Nat.pow_add]
        exact Nat.pow_le_pow_right (by decide) (by omega)

/-! what fits, by a sign and what is without it -/

def bndN (to : Nat) (sg ng : Bool) : Nat := if sg then (if ng then 2 ^ (to - 1) else 2 ^ (to - 1) - 1) else (if ng then 0 else 2 ^ to - 1)
def numN (to : Nat) (ng : Bool) (n : Nat) : Nat := if ng then (2 ^ to - n) % 2 ^ to else n
theorem bnd_le {to : Nat} (hw : IsW to) (sg ng : Bool) : bndN to sg ng ≤ 2 ^ to ∧ bndN to sg ng < 2 ^ 64 ∧ (ng = false → bndN to sg ng < 2 ^ to) := by
  rcases hw with rfl | rfl <;> cases sg <;> cases ng <;> decide

theorem hold_parts {to : Nat} (hw : IsW to) (sg ng : Bool) (T : Nat) : holdV to sg (sgn ng T) = if T ≤ bndN to sg ng then (numN to ng T, true) else (numN to ng (bndN to sg ng), false) := by
  rcases hw with rfl | rfl
  · cases sg <;> cases ng <;> simp only [holdV, sgn, bndN, numN, lowI, endI, Bool.false_eq_true, if_false, if_true, show (2 ^ (32 - 1) : Nat) = 2147483648 by decide, show (2 ^ 32 : Nat) = 4294967296 by decide]
    · by_cases c : T ≤ 4294967295
      · rw [if_neg (by omega), if_neg (by omega), if_pos (by omega)]
        congr 1; omega
      · rw [if_neg (by omega), if_pos (by omega), if_neg (by omega)]
        congr 1
    · by_cases c : T ≤ 0
      · rw [if_neg (by omega), if_neg (by omega), if_pos (by omega)]
        congr 1; omega
      · rw [if_pos (by omega), if_neg (by omega)]
        congr 1
    · by_cases c : T ≤ 2147483647
      · rw [if_neg (by omega), if_neg (by omega), if_pos (by omega)]
        congr 1; omega
      · rw [if_neg (by omega), if_pos (by omega), if_neg (by omega)]
        congr 1
    · by_cases c : T ≤ 2147483648
      · rw [if_neg (by omega), if_neg (by omega), if_pos (by omega)]
        congr 1; omega
      · rw [if_pos (by omega), if_neg (by omega)]
        congr 1
  · cases sg <;> cases ng <;> simp only [holdV, sgn, bndN, numN, lowI, endI, Bool.false_eq_true, if_false, if_true, show (2 ^ (64 - 1) : Nat) = 9223372036854775808 by decide, show (2 ^ 64 : Nat) = 18446744073709551616 by decide]
    · by_cases c : T ≤ 18446744073709551615
      · rw [if_neg (by omega), if_neg (by omega), if_pos (by omega)]
        congr 1; omega
      · rw [if_neg (by omega), if_pos (by omega), if_neg (by omega)]
        congr 1
    · by_cases c : T ≤ 0
      · rw [if_neg (by omega), if_neg (by omega), if_pos (by omega)]
        congr 1; omega
      · rw [if_pos (by omega), if_neg (by omega)]
        congr 1
    · by_cases c : T ≤ 9223372036854775807
      · rw [if_neg (by omega), if_neg (by omega), if_pos (by omega)]
        congr 1; omega
      · rw [if_neg (by omega), if_pos (by omega), if_neg (by omega)]
        congr 1
    · by_cases c : T ≤ 9223372036854775808
      · rw [if_neg (by omega), if_neg (by omega), if_pos (by omega)]
        congr 1; omega
      · rw [if_pos (by omega), if_neg (by omega)]
        congr 1

/-- What the document's cut answers. -/
def cutR (to : Nat) (sg ng : Bool) (m : Nat) (e : Int) (ok : Bool) : Nat × Bool :=
  if ok && (wholeR m e).2 && decide ((wholeR m e).1 ≤ bndN to sg ng) then (numN to ng (wholeR m e).1, true) else (numN to ng (bndN to sg ng), false)

theorem cut_fin {fr to a : Nat} {sg : Bool} (hf : IsW fr) (ht : IsW to) (h : rung (fm fr) a < (fm fr).infRung) : cutN fr to sg a = cutR to sg (neg (fm fr) a) (pm fr a) (pe fr a) true := by
  have hn : na fr a = false := by unfold na infN; exact decide_eq_false (by omega)
  have hm : pm fr a < 2 ^ 64 := Nat.lt_of_lt_of_le pm_lt (Nat.pow_le_pow_right (by decide) (by rcases hf with rfl | rfl <;> decide))
  unfold cutN cutR
  rw [hn, if_neg (by decide), worth_fin hf h, hold_parts ht]
  obtain ⟨_, hb, _⟩ := bnd_le ht sg (neg (fm fr) a)
  rcases wholeR_is (e := pe fr a) hm with ⟨h1, h2, h3⟩ | ⟨h1, h2⟩
  · rw [h1, h2]
    simp
  · rw [h1, if_neg (by omega)]
    simp
theorem cut_inf {fr to a : Nat} {sg : Bool} (hf : IsW fr) (ht : IsW to) (h : rung (fm fr) a = (fm fr).infRung) : cutN fr to sg a = cutR to sg (neg (fm fr) a) 0 0 false := by
  have hn : na fr a = false := by unfold na infN; exact decide_eq_false (by omega)
  unfold cutN cutR
  rw [hn, if_neg (by decide)]
  obtain ⟨_, hb, _⟩ := bnd_le ht sg (neg (fm fr) a)
  have ht' : ∃ T, trI (worthN fr a) = sgn (neg (fm fr) a) T ∧ 2 ^ 64 < T := by
    rcases hf with rfl | rfl
    · have h' : rung Ieee.single a = Ieee.single.infRung := h
      have hle : rung Ieee.single a ≤ Ieee.single.infRung := by omega
      refine ⟨tr (worthN 32 a), ?_, tr_inf ?_⟩
      · unfold trI worthN; rw [if_pos rfl, wn_neg hle]; rfl
      · unfold worthN; rw [if_pos rfl, wn_rung hle, h', prom_inf]
    · refine ⟨tr (worthN 64 a), ?_, tr_inf ?_⟩
      · unfold trI worthN; rw [if_neg (by decide)]; rfl
      · unfold worthN; rw [if_neg (by decide)]; exact h
  obtain ⟨T, e, hT⟩ := ht'
  rw [e, hold_parts ht, if_neg (by omega)]
  simp

/-! rounding -/

def shN (m : Nat) (n : Int) : Nat := cutS .even false (m * 2 ^ (-n).toNat) n.toNat
/-- The place of the last digit. -/
def lowP (w m : Nat) (e : Int) : Int := max (e + m.log2) (1 - (bi w : Int)) - fb w

theorem rung_round2 {w m : Nat} {e : Int} (hw : IsW w) (h0 : m ≠ 0) :
    rungOf (fm w) m e = min ((lowP w m e - (fm w).leastPlace).toNat * (fm w).binade + shN m (lowP w m e - e)) (fm w).infRung := by
  have hl : lowP w m e = max (e + m.log2 - (fm w).fractionBits) (fm w).leastPlace := by
    rw [lp_is hw]; unfold lowP fb; omega
  unfold rungOf shN
  rw [if_neg h0, ← hl]
  simp only
  rw [show (-(lowP w m e - e)).toNat = (e - lowP w m e).toNat by congr 1; omega]

theorem sh_upper {w m : Nat} {e : Int} (hw : IsW w) (h0 : m ≠ 0) : shN m (lowP w m e - e) ≤ 2 * (fm w).binade ∧ m * 2 ^ (-(lowP w m e - e)).toNat < 2 * (fm w).binade * 2 ^ (lowP w m e - e).toNat := by
  have hm := Nat.lt_log2_self (n := m)
  have hl : e + m.log2 - fb w ≤ lowP w m e := by unfold lowP; omega
  generalize lowP w m e = L at *
  have b1 : m * 2 ^ (-(L - e)).toNat < 2 * (fm w).binade * 2 ^ (L - e).toNat := by
    rw [show 2 * (fm w).binade = 2 ^ (fb w + 1) by rw [Nat.pow_succ, Nat.mul_comm]; rfl]
    rw [← Nat.pow_add]
    refine Nat.lt_of_lt_of_le (Nat.mul_lt_mul_of_pos_right hm (Nat.two_pow_pos _)) ?_
    rw [← Nat.pow_add]
    exact Nat.pow_le_pow_right (by decide) (by omega)
  refine ⟨?_, b1⟩
  unfold shN
  have := cutS_mono _ _ (L - e).toNat (Nat.le_of_lt b1)
  have e := cutS_scale .even false (2 * (fm w).binade) 0 (L - e).toNat
  rw [Nat.zero_add, cutS_zero] at e
  omega
theorem sh_ge {w m : Nat} {e : Int} (hw : IsW w) (h0 : m ≠ 0) (c : 1 - (bi w : Int) ≤ e + m.log2) : (fm w).binade ≤ shN m (lowP w m e - e) := by
  have hL : lowP w m e = e + m.log2 - fb w := by unfold lowP; omega
  rw [hL]
  have hn := Nat.log2_self_le h0
  have b1 : (fm w).binade * 2 ^ (e + m.log2 - fb w - e).toNat ≤ m * 2 ^ (-(e + m.log2 - fb w - e)).toNat := by
    refine Nat.le_trans ?_ (Nat.mul_le_mul_right _ hn)
    show 2 ^ fb w * _ ≤ _
    rw [← Nat.pow_add, ← Nat.pow_add]
    exact Nat.pow_le_pow_right (by decide) (by omega)
  have := cutS_mono _ _ (e + m.log2 - fb w - e).toNat b1
  have e := cutS_scale .even false (fm w).binade 0 (e + m.log2 - fb w - e).toNat
  rw [Nat.zero_add, cutS_zero] at e
  unfold shN
  omega
theorem sh_lower {w m : Nat} {e : Int} (hw : IsW w) (h0 : m ≠ 0) (h : shN m (lowP w m e - e) < (fm w).binade) : lowP w m e = (fm w).leastPlace := by
  rw [lp_is hw]
  rcases Int.lt_or_le (e + m.log2) (1 - (bi w : Int)) with c | c
  · unfold lowP; omega
  · have := sh_ge hw h0 c
    omega

/-- The two ways out of the document's rounding. -/
theorem round_small {w m : Nat} {e : Int} (hw : IsW w) (h0 : m ≠ 0) (h : shN m (lowP w m e - e) < (fm w).binade) : rungOf (fm w) m e = shN m (lowP w m e - e) := by
  rw [rung_round2 hw h0, sh_lower hw h0 h, Int.sub_self, Int.toNat_zero, Nat.zero_mul, Nat.zero_add]
  rw [sh_lower hw h0 h] at h
  have := (good w).binade_lt_inf
  have := binade_pos (fm w)
  omega
def outN (w m : Nat) (e : Int) : Nat := (lowP w m e + fb w + bi w).toNat * 2 ^ fb w + (shN m (lowP w m e - e) - 2 ^ fb w)
theorem round_great {w m : Nat} {e : Int} (hw : IsW w) (h0 : m ≠ 0) (h : (fm w).binade ≤ shN m (lowP w m e - e)) : rungOf (fm w) m e = min (outN w m e) (fm w).infRung := by
  rw [rung_round2 hw h0]
  have hl : 1 - (bi w : Int) - fb w ≤ lowP w m e := by unfold lowP; omega
  have e1 : (lowP w m e + fb w + bi w).toNat = (lowP w m e - (fm w).leastPlace).toNat + 1 := by rw [lp_is hw]; omega
  unfold outN
  rw [e1, Nat.succ_mul]
  change 2 ^ fb w ≤ _ at h
  show min (_ * 2 ^ fb w + _) _ = _
  congr 1
  omega
end Go.Proofs.YtpeckiaimellmaaDoor.F.C
