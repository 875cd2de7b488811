/-
  Rounding to a whole number, on rungs; square roots, on rungs. No program is named here.
-/
import Derived.Test.YtfahogbiekmdfabDoorFloRead
namespace Go.Proofs.YtfahogbiekmdfabDoor.Flo
open Ieee
set_option linter.unusedVariables false

def bias (f : Format) : Nat := 2 ^ (f.exponentBits - 1) - 1
/-- Digits behind the point, at a rung between 1 and what is whole. -/
def tail (f : Format) (r : Nat) : Nat := f.fractionBits + bias f - r / f.binade

/-- The whole rung at or below; whether that is it; whether the rest is more than a half; a half. -/
def wholeF (f : Format) (r : Nat) : Nat × Bool × Bool × Bool :=
  if bias f + f.fractionBits ≤ r / f.binade then (r, true, false, false)
  else if r / f.binade < bias f then (0, decide (r = 0), decide (r / f.binade + 1 = bias f) && decide (r % f.binade ≠ 0), decide (r / f.binade + 1 = bias f) && decide (r % f.binade = 0))
  else (r - r % 2 ^ tail f r, decide (r % 2 ^ tail f r = 0), decide (2 ^ (tail f r - 1) < r % 2 ^ tail f r), decide (r % 2 ^ tail f r = 2 ^ (tail f r - 1)))
def upF (f : Format) (m : Nat) : Nat := if m = 0 then bias f * f.binade else m + 2 ^ tail f m
def oddF (f : Format) (m : Nat) : Bool :=
  if m / f.binade < bias f ∨ bias f + f.fractionBits < m / f.binade then false else decide ((f.binade + m % f.binade) / 2 ^ tail f m % 2 = 1)
def goesF (f : Format) (way : Toward) (s : Bool) (r : Nat) : Bool :=
  match way with
  | .up => !s && !(wholeF f r).2.1
  | .down => s && !(wholeF f r).2.1
  | .even => (wholeF f r).2.2.1 || ((wholeF f r).2.2.2 && oddF f (wholeF f r).1)
  | .zero => false
def roundF (f : Format) (way : Toward) (s : Bool) (r : Nat) : Nat := if goesF f way s r then upF f (wholeF f r).1 else (wholeF f r).1

/-- What 1 is worth. -/
def unit (f : Format) : Nat := 2 ^ (f.fractionBits + bias f - 1)

theorem Good.bias_pos {f : Format} (g : Good f) : 3 ≤ bias f := by
  have : 2 ^ 2 ≤ 2 ^ (f.exponentBits - 1) := Nat.pow_le_pow_right (by decide) (by have := g.eb; omega)
  unfold bias; omega
theorem Good.lp {f : Format} (g : Good f) : f.leastPlace = 1 - (bias f : Int) - f.fractionBits := by
  have h := g.bias_pos
  have hp := Nat.two_pow_pos (f.exponentBits - 1)
  unfold Format.leastPlace
  have e : ((2 : Int) ^ (f.exponentBits - 1)) = ((2 ^ (f.exponentBits - 1) : Nat) : Int) := by simp
  rw [e]
  unfold bias at *
  omega
theorem Good.two_bias {f : Format} (g : Good f) : 2 ^ f.exponentBits = 2 * bias f + 2 := by
  have := g.eb
  have hp := Nat.two_pow_pos (f.exponentBits - 1)
  rw [show f.exponentBits = (f.exponentBits - 1) + 1 by omega, Nat.pow_succ]
  unfold bias
  omega
theorem Good.inf_eq {f : Format} (g : Good f) : f.infRung = (2 * bias f + 1) * f.binade := by
  unfold Format.infRung
  rw [g.two_bias]
  rfl
theorem Good.fb_le {f : Format} (g : Good f) : f.fractionBits ≤ bias f + 1 := by
  have := g.small
  have hp := Nat.two_pow_pos (f.exponentBits - 1)
  unfold bias; omega

/-- The three kinds of rungs. -/
inductive Kind (f : Format) (r : Nat) : Prop
  | great (h : bias f + f.fractionBits ≤ r / f.binade) (d : unit f ∣ mval f r) (w : wholeF f r = (r, true, false, false))
  | small (h : r / f.binade < bias f) (l : mval f r < unit f) (m : unit f < 2 * mval f r ↔ (r / f.binade + 1 = bias f ∧ r % f.binade ≠ 0)) (e : unit f = 2 * mval f r ↔ (r / f.binade + 1 = bias f ∧ r % f.binade = 0))
      (w : wholeF f r = (0, decide (r = 0), decide (r / f.binade + 1 = bias f) && decide (r % f.binade ≠ 0), decide (r / f.binade + 1 = bias f) && decide (r % f.binade = 0)))
  | mid (q t k : Nat) (hq : bias f ≤ q) (hk : 1 ≤ k) (hk' : k ≤ f.fractionBits) (hs : q + k = bias f + f.fractionBits) (hr : r = f.binade * q + t) (ht : t < f.binade)
      (ex : mval f r = (f.binade + t) * 2 ^ (q - 1)) (u : unit f = 2 ^ k * 2 ^ (q - 1)) (b : ∃ c, f.binade = 2 ^ k * c ∧ 0 < c) (mt : r % 2 ^ k = t % 2 ^ k)
      (w : wholeF f r = (r - t % 2 ^ k, decide (t % 2 ^ k = 0), decide (2 ^ (k - 1) < t % 2 ^ k), decide (t % 2 ^ k = 2 ^ (k - 1))))

theorem kind_of {f : Format} (g : Good f) (r : Nat) : Kind f r := by
  have hB := binade_pos f
  have hb := g.bias_pos
  have hfb := g.fb
  have hd := Nat.div_add_mod r f.binade
  have hm := Nat.mod_lt r hB
  by_cases c : bias f + f.fractionBits ≤ r / f.binade
  · refine .great c ?_ (by unfold wholeF; rw [if_pos c])
    unfold mval
    rw [if_neg (by intro h; rw [Nat.div_eq_of_lt h] at c; omega)]
    refine Nat.dvd_mul_left_of_dvd ?_ _
    exact Nat.pow_dvd_pow 2 (by omega)
  · by_cases c2 : r / f.binade < bias f
    · have hu : unit f = f.binade * 2 ^ (bias f - 1) := by
        unfold unit Format.binade
        rw [← Nat.pow_add]; congr 1; omega
      have hw : wholeF f r = (0, decide (r = 0), decide (r / f.binade + 1 = bias f) && decide (r % f.binade ≠ 0), decide (r / f.binade + 1 = bias f) && decide (r % f.binade = 0)) := by
        unfold wholeF; rw [if_neg c, if_pos c2]
      by_cases c3 : r < f.binade
      · have e0 : r / f.binade = 0 := Nat.div_eq_of_lt c3
        have e1 : r % f.binade = r := Nat.mod_eq_of_lt c3
        have ev : mval f r = r := by unfold mval; rw [if_pos c3]
        have : 2 * 1 ≤ 2 ^ (bias f - 1) := by
          have := Nat.pow_le_pow_right (n := 2) (by decide) (show 1 ≤ bias f - 1 by omega)
          simpa using this
        have h2 : f.binade * (2 * 1) ≤ unit f := by rw [hu]; exact Nat.mul_le_mul_left _ this
        refine .small c2 (by omega) ?_ ?_ hw
        · rw [ev, e0]; constructor
          · intro; omega
          · rintro ⟨h, _⟩; omega
        · rw [ev, e0]; constructor
          · intro; omega
          · rintro ⟨h, _⟩; omega
      · have hq1 : 1 ≤ r / f.binade := (Nat.le_div_iff_mul_le hB).2 (by omega)
        have ev : mval f r = (f.binade + r % f.binade) * 2 ^ (r / f.binade - 1) := by unfold mval; rw [if_neg c3]
        generalize hq : r / f.binade = q at *
        generalize ht : r % f.binade = t at *
        have hp := Nat.two_pow_pos (q - 1)
        have hu2 : unit f = f.binade * (2 * 2 ^ (bias f - 1 - q)) * 2 ^ (q - 1) := by
          rw [hu, Nat.mul_assoc, Nat.mul_comm 2, ← Nat.pow_succ, ← Nat.pow_add]
          congr 2; omega
        have hz : 1 ≤ 2 ^ (bias f - 1 - q) := Nat.two_pow_pos _
        have hb1 : f.binade * 1 ≤ f.binade * 2 ^ (bias f - 1 - q) := Nat.mul_le_mul_left _ hz
        have hb2 : f.binade * (2 * 2 ^ (bias f - 1 - q)) = 2 * (f.binade * 2 ^ (bias f - 1 - q)) := by rw [← Nat.mul_assoc, Nat.mul_comm _ 2, Nat.mul_assoc]
        refine .small (by rw [hq]; exact c2) ?_ ?_ ?_ (by rw [hq, ht]; exact hw)
        · rw [ev, hu2]
          exact Nat.mul_lt_mul_of_pos_right (by omega) hp
        · rw [hq, ht, ev, hu2, ← Nat.mul_assoc 2, Nat.mul_lt_mul_right hp, hb2]
          rcases Nat.lt_or_ge (q + 1) (bias f) with c4 | c4
          · have : 2 * 1 ≤ 2 ^ (bias f - 1 - q) := by
              have := Nat.pow_le_pow_right (n := 2) (by decide) (show 1 ≤ bias f - 1 - q by omega)
              simpa using this
            have := Nat.mul_le_mul_left f.binade this
            omega
          · rw [show bias f - 1 - q = 0 by omega]
            omega
        · rw [hq, ht, ev, hu2, ← Nat.mul_assoc 2, Nat.mul_left_inj (by omega), hb2]
          rcases Nat.lt_or_ge (q + 1) (bias f) with c4 | c4
          · have : 2 * 1 ≤ 2 ^ (bias f - 1 - q) := by
              have := Nat.pow_le_pow_right (n := 2) (by decide) (show 1 ≤ bias f - 1 - q by omega)
              simpa using this
            have := Nat.mul_le_mul_left f.binade this
            omega
          · rw [show bias f - 1 - q = 0 by omega]
            omega
    · have hq1 : 1 ≤ r / f.binade := by omega
      have c3 : ¬ r < f.binade := by intro h; rw [Nat.div_eq_of_lt h] at hq1; omega
      have ev : mval f r = (f.binade + r % f.binade) * 2 ^ (r / f.binade - 1) := by unfold mval; rw [if_neg c3]
      have hw : wholeF f r = (r - r % 2 ^ tail f r, decide (r % 2 ^ tail f r = 0), decide (2 ^ (tail f r - 1) < r % 2 ^ tail f r), decide (r % 2 ^ tail f r = 2 ^ (tail f r - 1))) := by
        unfold wholeF; rw [if_neg c, if_neg c2]
      have hdv : f.binade = 2 ^ tail f r * 2 ^ (f.fractionBits - tail f r) := by
        unfold Format.binade; rw [← Nat.pow_add]; congr 1; unfold tail; omega
      have hmt : r % 2 ^ tail f r = r % f.binade % 2 ^ tail f r := by
        have := Nat.mod_mod_of_dvd r (show 2 ^ tail f r ∣ f.binade from ⟨_, hdv⟩)
        exact this.symm
      have hu : unit f = 2 ^ tail f r * 2 ^ (r / f.binade - 1) := by
        unfold unit; rw [← Nat.pow_add]; congr 1; unfold tail; omega
      refine .mid (r / f.binade) (r % f.binade) (tail f r) (by omega) (by unfold tail; omega) (by unfold tail; omega) (by unfold tail; omega) hd.symm hm ev hu ⟨_, hdv, Nat.two_pow_pos _⟩ hmt ?_
      rw [hw, hmt]

theorem unit_pos (f : Format) : 0 < unit f := Nat.two_pow_pos _
def points (f : Format) : Nat := f.fractionBits + bias f - 1
theorem unit_pow (f : Format) : unit f = 2 ^ points f := rfl

/-- What is cut off, and what is left. -/
theorem cut_mid {B t k p c : Nat} (hB : B = 2 ^ k * c) : (B + t) * 2 ^ p / (2 ^ k * 2 ^ p) = (B + t) / 2 ^ k ∧ (B + t) * 2 ^ p % (2 ^ k * 2 ^ p) = t % 2 ^ k * 2 ^ p := by
  have hp := Nat.two_pow_pos p
  constructor
  · rw [Nat.mul_div_mul_right _ _ hp]
  · rw [Nat.mul_mod_mul_right, hB, Nat.mul_add_mod]

theorem half_pow {k : Nat} (hk : 1 ≤ k) : 2 ^ k = 2 * 2 ^ (k - 1) := by
  rw [show k = (k - 1) + 1 by omega, Nat.pow_succ, Nat.mul_comm]; rfl

theorem wholeF_exact {f : Format} (g : Good f) (r : Nat) : (wholeF f r).2.1 = decide (mval f r % unit f = 0) := by
  have hz : mval f r = 0 ↔ r = 0 := ⟨fun h => mval_inj f (h.trans (mval_zero f).symm), fun h => by rw [h, mval_zero]⟩
  cases kind_of g r with
  | great h d w => rw [w, Nat.mod_eq_zero_of_dvd d]; rfl
  | small h l m e w => rw [w, Nat.mod_eq_of_lt l]; simp only [hz]
  | mid q t k hq hk hk' hs hr ht ex u b mt w =>
    obtain ⟨c, hc, _⟩ := b
    rw [w, ex, u, (cut_mid hc).2]
    have hp := Nat.two_pow_pos (q - 1)
    simp only [Nat.mul_eq_zero, show ¬ 2 ^ (q - 1) = 0 by omega, or_false]
theorem wholeF_more {f : Format} (g : Good f) (r : Nat) : (wholeF f r).2.2.1 = decide (unit f < 2 * (mval f r % unit f)) := by
  have hu := unit_pos f
  cases kind_of g r with
  | great h d w => rw [w, Nat.mod_eq_zero_of_dvd d]; simp
  | small h l m e w => rw [w, Nat.mod_eq_of_lt l]; simp only [m, Bool.decide_and]
  | mid q t k hq hk hk' hs hr ht ex u b mt w =>
    obtain ⟨c, hc, _⟩ := b
    rw [w, ex, u, (cut_mid hc).2]
    have hp := Nat.two_pow_pos (q - 1)
    simp only
    congr 1
    rw [← Nat.mul_assoc, Nat.mul_lt_mul_right hp, half_pow hk]
    apply propext
    omega
theorem wholeF_half {f : Format} (g : Good f) (r : Nat) : (wholeF f r).2.2.2 = decide (unit f = 2 * (mval f r % unit f)) := by
  have hu := unit_pos f
  cases kind_of g r with
  | great h d w => rw [w, Nat.mod_eq_zero_of_dvd d]; simp; omega
  | small h l m e w => rw [w, Nat.mod_eq_of_lt l]; simp only [e, Bool.decide_and]
  | mid q t k hq hk hk' hs hr ht ex u b mt w =>
    obtain ⟨c, hc, _⟩ := b
    rw [w, ex, u, (cut_mid hc).2]
    have hp := Nat.two_pow_pos (q - 1)
    simp only
    congr 1
    rw [← Nat.mul_assoc, Nat.mul_left_inj (by omega), half_pow hk]
    apply propext
    omega

/-- A rung of a binade. -/
theorem mval_at {f : Format} {q t : Nat} (hq : 1 ≤ q) (ht : t ≤ f.binade) : mval f (f.binade * q + t) = (f.binade + t) * 2 ^ (q - 1) := by
  have hB := binade_pos f
  unfold mval
  have hge : f.binade * 1 ≤ f.binade * q := Nat.mul_le_mul_left _ hq
  rw [if_neg (by omega)]
  rcases Nat.lt_or_ge t f.binade with c | c
  · rw [Nat.mul_add_mod, Nat.mod_eq_of_lt c, Nat.mul_add_div hB, Nat.div_eq_of_lt c, Nat.add_zero]
  · rw [show t = f.binade by omega, ← Nat.mul_succ, Nat.mul_mod_right, Nat.mul_div_cancel_left _ hB]
    rw [show q.succ - 1 = (q - 1) + 1 by omega, Nat.pow_succ, Nat.add_zero, Nat.mul_comm (2 ^ (q - 1)) 2, ← Nat.mul_assoc]
    congr 1
    omega

theorem wholeF_worth {f : Format} (g : Good f) (r : Nat) : mval f (wholeF f r).1 = mval f r / unit f * unit f := by
  have hb := g.bias_pos
  cases kind_of g r with
  | great h d w => rw [w, Nat.div_mul_cancel d]
  | small h l m e w => rw [w, Nat.div_eq_of_lt l, Nat.zero_mul]; exact mval_zero f
  | mid q t k hq hk hk' hs hr ht ex u b mt w =>
    obtain ⟨c, hc, _⟩ := b
    rw [w, ex, u, (cut_mid hc).1]
    have hle := Nat.mod_le t (2 ^ k)
    simp only
    rw [hr, show f.binade * q + t - t % 2 ^ k = f.binade * q + (t - t % 2 ^ k) by omega, mval_at (by omega) (by omega), ← Nat.mul_assoc]
    congr 1
    have hd := Nat.div_add_mod (f.binade + t) (2 ^ k)
    have hm : (f.binade + t) % 2 ^ k = t % 2 ^ k := by rw [hc, Nat.mul_add_mod]
    rw [hm, Nat.mul_comm] at hd
    omega

theorem pts {f : Format} (g : Good f) : points f = (-f.leastPlace).toNat := by
  rw [g.lp]; unfold points; have := g.bias_pos; omega

theorem upF_worth {f : Format} (g : Good f) (r : Nat) (h : r / f.binade < bias f + f.fractionBits) :
    mval f (upF f (wholeF f r).1) = mval f (wholeF f r).1 + unit f ∧ upF f (wholeF f r).1 ≤ f.infRung := by
  have hb := g.bias_pos
  have hB := binade_pos f
  have hfb := g.fb_le
  have hle1 : bias f * f.binade ≤ f.infRung := by rw [g.inf_eq]; exact Nat.mul_le_mul_right _ (by omega)
  have h1 : mval f (bias f * f.binade) = unit f := by
    have := mval_at (f := f) (q := bias f) (t := 0) (by omega) (by omega)
    rw [Nat.add_zero, Nat.add_zero, Nat.mul_comm] at this
    rw [this]
    unfold unit Format.binade
    rw [← Nat.pow_add]; congr 1; omega
  cases kind_of g r with
  | great h' d w => omega
  | small h' l m e w =>
    rw [w]
    unfold upF
    simp only [if_true, mval_zero, Nat.zero_add]
    exact ⟨h1, hle1⟩
  | mid q t k hq hk hk' hs hr ht ex u b mt w =>
    obtain ⟨c, hc, hc0⟩ := b
    rw [w]
    simp only
    have hmle := Nat.mod_le t (2 ^ k)
    have e1 : r - t % 2 ^ k = f.binade * q + (t - t % 2 ^ k) := by omega
    have hq0 : f.binade * 1 ≤ f.binade * q := Nat.mul_le_mul_left _ (by omega)
    have ed : (f.binade * q + (t - t % 2 ^ k)) / f.binade = q := by
      rw [Nat.mul_add_div hB, Nat.div_eq_of_lt (by omega), Nat.add_zero]
    have et : tail f (r - t % 2 ^ k) = k := by
      unfold tail; rw [e1, ed]; omega
    unfold upF
    rw [if_neg (by omega), et, e1]
    have hd := Nat.div_add_mod t (2 ^ k)
    have hlt : t / 2 ^ k < c := (Nat.div_lt_iff_lt_mul (Nat.two_pow_pos k)).2 (by rw [Nat.mul_comm]; omega)
    have hs2 : 2 ^ k * (t / 2 ^ k + 1) ≤ 2 ^ k * c := Nat.mul_le_mul_left _ hlt
    rw [Nat.mul_succ] at hs2
    generalize 2 ^ k * (t / 2 ^ k) = z at *
    have e3 : t - t % 2 ^ k + 2 ^ k ≤ f.binade := by omega
    rw [Nat.add_assoc, mval_at (by omega) e3, mval_at (by omega) (by omega), u, ← Nat.add_assoc, Nat.add_mul]
    refine ⟨rfl, ?_⟩
    have h3 : f.binade * (q + 1) ≤ f.infRung := by rw [g.inf_eq, Nat.mul_comm]; exact Nat.mul_le_mul_right _ (by omega)
    rw [Nat.mul_succ] at h3
    omega

theorem oddF_is {f : Format} (g : Good f) (r : Nat) (h : r / f.binade < bias f + f.fractionBits) : oddF f (wholeF f r).1 = decide (mval f r / unit f % 2 = 1) := by
  have hb := g.bias_pos
  have hB := binade_pos f
  cases kind_of g r with
  | great h' d w => omega
  | small h' l m e w =>
    rw [w, Nat.div_eq_of_lt l]
    unfold oddF
    rw [Nat.zero_div, if_pos (by omega)]
    rfl
  | mid q t k hq hk hk' hs hr ht ex u b mt w =>
    obtain ⟨c, hc, hc0⟩ := b
    rw [w, ex, u, (cut_mid hc).1]
    simp only
    have hmle := Nat.mod_le t (2 ^ k)
    have e1 : r - t % 2 ^ k = f.binade * q + (t - t % 2 ^ k) := by omega
    have ed : (f.binade * q + (t - t % 2 ^ k)) / f.binade = q := by
      rw [Nat.mul_add_div hB, Nat.div_eq_of_lt (by omega), Nat.add_zero]
    have em : (f.binade * q + (t - t % 2 ^ k)) % f.binade = t - t % 2 ^ k := by
      rw [Nat.mul_add_mod, Nat.mod_eq_of_lt (by omega)]
    have et : tail f (f.binade * q + (t - t % 2 ^ k)) = k := by
      unfold tail; rw [ed]; omega
    unfold oddF
    rw [e1, ed, em, et, if_neg (by omega)]
    have hp := Nat.two_pow_pos k
    have e4 : (f.binade + (t - t % 2 ^ k)) / 2 ^ k = (f.binade + t) / 2 ^ k := by
      rw [hc, Nat.mul_add_div hp, Nat.mul_add_div hp]
      congr 1
      have hd := Nat.div_add_mod t (2 ^ k)
      have : t - t % 2 ^ k = 2 ^ k * (t / 2 ^ k) := by omega
      rw [this, Nat.mul_div_cancel_left _ hp]
    rw [e4]

theorem great_exact {f : Format} (g : Good f) {r : Nat} (h : bias f + f.fractionBits ≤ r / f.binade) : wholeF f r = (r, true, false, false) := by unfold wholeF; rw [if_pos h]

theorem goesF_is {f : Format} (g : Good f) (way : Toward) (s : Bool) (r : Nat) : goesF f way s r = goes way s (unit f) (mval f r / unit f) (mval f r % unit f) := by
  have hu := unit_pos f
  cases way with
  | up => simp only [goesF, goes, wholeF_exact g, bne, Bool.beq_eq_decide_eq]
  | down => simp only [goesF, goes, wholeF_exact g, bne, Bool.beq_eq_decide_eq]
  | zero => rfl
  | even =>
    simp only [goesF, goes, wholeF_more g, wholeF_half g, Bool.beq_eq_decide_eq]
    rcases Nat.lt_or_ge (r / f.binade) (bias f + f.fractionBits) with c | c
    · rw [oddF_is g r c]
    · have hx := wholeF_half g r
      rw [great_exact g c] at hx
      simp only at hx
      rw [← hx]
      simp

/-- The explicit rounding is the model's. -/
theorem roundF_worth {f : Format} (g : Good f) (way : Toward) (s : Bool) (r : Nat) : mval f (roundF f way s r) = cutS way s (mval f r) (points f) * unit f := by
  unfold roundF cutS
  rw [← unit_pow, goesF_is g]
  have h1 := wholeF_worth g r
  cases c : goes way s (unit f) (mval f r / unit f) (mval f r % unit f)
  · rw [if_neg (by decide), h1]; simp
  · rw [if_pos rfl, (upF_worth g r ?_).1, h1]
    · simp [Nat.add_mul]
    · rcases Nat.lt_or_ge (r / f.binade) (bias f + f.fractionBits) with d | d
      · exact d
      · exfalso
        have hu := unit_pos f
        have h0 : mval f r % unit f = 0 := by
          have := wholeF_exact g r
          rw [great_exact g d] at this
          exact of_decide_eq_true this.symm
        rw [h0] at c
        cases way <;> simp [goes] at c
        omega
theorem roundF_le {f : Format} (g : Good f) (way : Toward) (s : Bool) {r : Nat} (h : r ≤ f.infRung) : roundF f way s r ≤ f.infRung := by
  have hw : (wholeF f r).1 ≤ r := by
    rcases Nat.lt_or_ge r (wholeF f r).1 with c | c
    · have h1 := mval_lt f c
      rw [wholeF_worth g] at h1
      have := Nat.div_mul_le_self (mval f r) (unit f)
      omega
    · exact c
  unfold roundF
  split
  · rename_i c
    rcases Nat.lt_or_ge (r / f.binade) (bias f + f.fractionBits) with d | d
    · exact (upF_worth g r d).2
    · exfalso
      cases way <;> simp [goesF, great_exact g d] at c
  · omega

theorem points_place {f : Format} (g : Good f) : (f.leastPlace + (points f : Int)) = 0 := by
  rw [g.lp]; unfold points; have := g.bias_pos; omega

theorem rung_round {f : Format} (g : Good f) (way : Toward) (s : Bool) {r : Nat} (h : r ≤ f.infRung) : rungOf f (cutS way s (mval f r) (points f)) 0 = roundF f way s r := by
  have h1 := roundF_worth g way s r
  have h2 := rung_mval f (roundF_le g way s h)
  rw [h1, unit_pow, rung_scale, points_place g] at h2
  exact h2

/-- What is whole is whole. -/
theorem whole_of_dvd {f : Format} (g : Good f) {r : Nat} (h : unit f ∣ mval f r) : wholeF f r = (r, true, false, false) := by
  have hu := unit_pos f
  have h0 := Nat.mod_eq_zero_of_dvd h
  have e1 := wholeF_exact g r
  have e2 := wholeF_more g r
  have e3 := wholeF_half g r
  have e4 := wholeF_worth g r
  rw [Nat.div_mul_cancel h] at e4
  have e5 := mval_inj f e4
  rw [h0] at e1 e2 e3
  have e2' : (wholeF f r).2.2.1 = false := by rw [e2]; simp
  have e3' : (wholeF f r).2.2.2 = false := by rw [e3]; simp; omega
  have e1' : (wholeF f r).2.1 = true := by rw [e1]; simp
  exact Prod.ext e5 (Prod.ext e1' (Prod.ext e2' e3'))
theorem round_of_dvd {f : Format} (g : Good f) (way : Toward) (s : Bool) {r : Nat} (h : unit f ∣ mval f r) : roundF f way s r = r := by
  unfold roundF goesF
  rw [whole_of_dvd g h]
  cases way <;> simp
theorem round_dvd {f : Format} (g : Good f) (way : Toward) (s : Bool) (r : Nat) : unit f ∣ mval f (roundF f way s r) := by
  rw [roundF_worth g]; exact Nat.dvd_mul_left ..
theorem round_round {f : Format} (g : Good f) (way way' : Toward) (s s' : Bool) (r : Nat) : roundF f way' s' (roundF f way s r) = roundF f way s r :=
  round_of_dvd g _ _ (round_dvd g _ _ _)
theorem whole_le {f : Format} (g : Good f) (r : Nat) : (wholeF f r).1 ≤ r := by
  rcases Nat.lt_or_ge r (wholeF f r).1 with c | c
  · have h1 := mval_lt f c
    rw [wholeF_worth g] at h1
    have := Nat.div_mul_le_self (mval f r) (unit f)
    omega
  · exact c
/-- Away from 0 it is not below. -/
theorem le_away {f : Format} (g : Good f) (r : Nat) : r ≤ roundF f .up false r := by
  rcases Nat.lt_or_ge (roundF f .up false r) r with c | c
  · exfalso
    have h1 := mval_lt f c
    rw [roundF_worth g] at h1
    unfold cutS goes at h1
    rw [← unit_pow] at h1
    have hd := Nat.div_add_mod (mval f r) (unit f)
    have hu := unit_pos f
    have hm := Nat.mod_lt (mval f r) hu
    rw [Nat.mul_comm] at hd
    by_cases h0 : mval f r % unit f = 0
    · rw [h0] at h1 hd; simp at h1; omega
    · have : (mval f r % unit f != 0) = true := by simp [h0]
      rw [this] at h1
      simp [Nat.add_mul] at h1
      omega
  · exact c
theorem round_lt (way : Toward) (s : Bool) {r : Nat} (h : r < single.infRung) : roundF single way s r < single.infRung := by
  have h2 := roundF_le good_single way s (Nat.le_of_lt h)
  rcases Nat.lt_or_ge (roundF single way s r) single.infRung with c | c
  · exact c
  · exfalso
    have : roundF single way s r = single.infRung := by omega
    unfold roundF at this
    split at this
    · rename_i c1
      rcases Nat.lt_or_ge (r / single.binade) (bias single + single.fractionBits) with d | d
      · have h5 := (upF_worth good_single r d).1
        rw [this] at h5
        have h6 := wholeF_worth good_single r
        have h7 := Nat.div_mul_le_self (mval single r) (unit single)
        have h8 : r < 150 * single.binade := (Nat.div_lt_iff_lt_mul (binade_pos _)).1 (show r / single.binade < 150 from d)
        have h9 := mval_lt single h8
        have h10 : mval single (150 * single.binade) + unit single < mval single single.infRung := by decide +kernel
        omega
      · cases way <;> simp [goesF, great_exact good_single d] at c1
    · have := whole_le good_single r
      omega
/-- The rounding of 64 bits of what was made of 32 bits. -/
theorem round_prom (way : Toward) (s : Bool) {r : Nat} (h : r < single.infRung) : rungOf double (cutS way s (mval double (prom r)) (points double)) 0 = prom (roundF single way s r) := by
  obtain ⟨a, b⟩ := prom_worth h
  have e : points double = points single + gap := by decide
  rw [b, e, cutS_scale]
  have h1 := roundF_worth good_single way s r
  have h3 := round_lt way s h
  unfold prom
  rw [if_pos h3, h1, unit_pow, rung_scale, points_place good_single]
end Go.Proofs.YtfahogbiekmdfabDoor.Flo
