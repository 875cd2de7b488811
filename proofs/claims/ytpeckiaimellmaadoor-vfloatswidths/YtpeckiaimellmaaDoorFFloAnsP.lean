/-
  Rounding to a whole number and square roots by way of the model's doubles: the answers are the explicit ones. No program is named here.
-/
import Derived.Test.YtpeckiaimellmaaDoorFFloSpecP
set_option linter.unusedVariables false
set_option linter.unusedSimpArgs false
namespace Go.Proofs.YtpeckiaimellmaaDoor.F
open Flo

def back (w x : Nat) : Nat := if w = 32 then Ieee.single.word (neg Ieee.double x) (dem (rung Ieee.double x)) else x
/-- What becomes of a double that is made a float of width w. -/
structure Bk (w x r : Nat) : Prop where
  lt : r < 2 ^ w
  nan : na 64 x = true → na w r = true
  num : na 64 x = false → r = back w x
/-- No number of 64 bits becomes endless. -/
def Fits (w x : Nat) : Prop := w = 32 → na 64 x = false → rung Ieee.double x < Ieee.double.infRung → dem (rung Ieee.double x) < Ieee.single.infRung
structure Whl (way : Ieee.Toward) (x y : Nat) : Prop where
  lt : y < 2 ^ 64
  nan : na 64 x = true → na 64 y = true
  num : na 64 x = false → y = Ieee.double.word (neg Ieee.double x) (roundF Ieee.double way (neg Ieee.double x) (rung Ieee.double x))
structure Sq (x y : Nat) : Prop where
  lt : y < 2 ^ 64
  nan : (na 64 x || (neg Ieee.double x && rung Ieee.double x != 0)) = true → na 64 y = true
  num : (na 64 x || (neg Ieee.double x && rung Ieee.double x != 0)) = false → y = Ieee.double.word (neg Ieee.double x) (sqR (rung Ieee.double x))

theorem word_sign {w : Nat} (s : Bool) (a r : Nat) (h : s = neg (fm w) a) : (fm w).word s r = signOf w a + r := by
  unfold Ieee.Format.word signOf signN
  subst h
  split <;> simp

/-- The model's rounding. -/
theorem integral_word {x : Nat} (way : Ieee.Toward) (h : rung Ieee.double x ≤ Ieee.double.infRung) :
    Ieee.double.write ((Ieee.double.read x).integral way) = Ieee.double.word (neg Ieee.double x) (roundF Ieee.double way (neg Ieee.double x) (rung Ieee.double x)) := by
  rcases Nat.lt_or_ge (rung Ieee.double x) Ieee.double.infRung with c | c
  · obtain ⟨m, k, _, _, e, hr⟩ := parts_of good_double c
    rw [hr x rfl]
    simp only [Ieee.Datum.integral, cut_eq, Nat.shiftLeft_eq]
    rw [write_number, ← rung_round good_double way (neg Ieee.double x) h, e]
    congr 2
    have hp : Ieee.double.leastPlace = -(points Ieee.double : Int) := by decide
    rw [hp]
    generalize points Ieee.double = P
    rcases Nat.lt_or_ge k P with d | d
    · rw [show (-(P : Int) + (k : Int)).toNat = 0 by omega, show (-(-(P : Int) + (k : Int))).toNat = P - k by omega, Nat.pow_zero, Nat.mul_one]
      have := cutS_scale way (neg Ieee.double x) m (P - k) k
      rw [show P - k + k = P by omega] at this
      exact this.symm
    · rw [show (-(P : Int) + (k : Int)).toNat = k - P by omega, show (-(-(P : Int) + (k : Int))).toNat = 0 by omega]
      have := cutS_scale way (neg Ieee.double x) (m * 2 ^ (k - P)) 0 P
      rw [Nat.zero_add, Nat.mul_assoc, ← Nat.pow_add, show k - P + P = k by omega] at this
      exact this.symm
  · have ei : rung Ieee.double x = Ieee.double.infRung := by omega
    rw [read_inf good_double ei, ei]
    have : roundF Ieee.double way (neg Ieee.double x) Ieee.double.infRung = Ieee.double.infRung := by
      refine round_of_dvd good_double _ _ ?_
      cases kind_of good_double Ieee.double.infRung with
      | great h d w => exact d
      | small h _ _ _ _ => exact absurd h (by decide +kernel)
      | mid q t k hq hk hk' hs hr ht _ _ _ _ _ =>
        exfalso
        have h1 : Ieee.double.infRung = Ieee.double.binade * 2047 := by decide +kernel
        have h2 : bias Ieee.double = 1023 := by decide +kernel
        have h3 : Ieee.double.fractionBits = 52 := rfl
        have hB := binade_pos Ieee.double
        rw [h1] at hr
        have h4 : Ieee.double.binade * q ≤ Ieee.double.binade * 1075 := Nat.mul_le_mul_left _ (by omega)
        omega
    rw [this]
    rfl

theorem wn_neg {a : Nat} (h : rung Ieee.single a ≤ Ieee.single.infRung) : neg Ieee.double (Ieee.double.word (neg Ieee.single a) (prom (rung Ieee.single a))) = neg Ieee.single a := by
  have := inf_lt_sw Ieee.double
  have := prom_le h
  exact neg_word _ _ (by omega)
theorem wn_rung {a : Nat} (h : rung Ieee.single a ≤ Ieee.single.infRung) : rung Ieee.double (Ieee.double.word (neg Ieee.single a) (prom (rung Ieee.single a))) = prom (rung Ieee.single a) := by
  have := inf_lt_sw Ieee.double
  have := prom_le h
  exact rung_word _ _ (by omega)

theorem inf_whole {f : Ieee.Format} (hf : f = Ieee.single ∨ f = Ieee.double) (way : Ieee.Toward) (s : Bool) : roundF f way s f.infRung = f.infRung := by
  rcases hf with rfl | rfl <;> cases way <;> cases s <;> decide +kernel

/-- The rounding of what was made of 32 bits. -/
theorem round_wide (way : Ieee.Toward) (s : Bool) {r : Nat} (h : r ≤ Ieee.single.infRung) : roundF Ieee.double way s (prom r) = prom (roundF Ieee.single way s r) := by
  rcases Nat.lt_or_ge r Ieee.single.infRung with c | c
  · rw [← round_prom way s c, rung_round good_double way s (prom_le h)]
  · have e : r = Ieee.single.infRung := by omega
    rw [e, prom_inf, inf_whole (.inr rfl), inf_whole (.inl rfl), prom_inf]

theorem whl_back {w a x y : Nat} {way : Ieee.Toward} (hw : IsW w) (hx : Wor w a x) (hy : Whl way x y) (hn : na w a = false) :
    na 64 y = false ∧ Fits w y ∧ back w y = signOf w a + roundF (fm w) way (neg (fm w) a) (rung (fm w) a) := by
  have h1 := na_false hn
  have e := hx.na_eq hw
  rw [hn] at e
  rw [hy.num e, hx.num hn]
  have hld := inf_lt_sw Ieee.double
  rcases hw with rfl | rfl
  · change rung Ieee.single a ≤ Ieee.single.infRung at h1
    have h2 := roundF_le good_single way (neg Ieee.single a) h1
    have h3 := prom_le h2
    simp only [worthN, if_pos, wn_neg h1, wn_rung h1, round_wide way _ h1]
    refine ⟨?_, ?_, ?_⟩
    · unfold na
      rw [fm64, rung_word _ _ (by omega)]
      exact decide_eq_false (by unfold infN; rw [fm64]; omega)
    · intro _ _ h
      rw [rung_word _ _ (by omega)] at h ⊢
      rw [dem_prom h2]
      rcases Nat.lt_or_ge (roundF Ieee.single way (neg Ieee.single a) (rung Ieee.single a)) Ieee.single.infRung with c | c
      · exact c
      · have : roundF Ieee.single way (neg Ieee.single a) (rung Ieee.single a) = Ieee.single.infRung := by omega
        rw [this, prom_inf] at h
        omega
    · unfold back
      rw [if_pos rfl, neg_word _ _ (by omega), rung_word _ _ (by omega), dem_prom h2]
      exact word_sign (w := 32) _ _ _ rfl
  · change rung Ieee.double a ≤ Ieee.double.infRung at h1
    have h2 := roundF_le good_double way (neg Ieee.double a) h1
    simp only [worthN, show ¬ (64 = 32) by decide, if_false]
    refine ⟨?_, fun h => absurd h (by decide), ?_⟩
    · unfold na
      rw [fm64, rung_word _ _ (by omega)]
      exact decide_eq_false (by unfold infN; rw [fm64]; omega)
    · unfold back
      rw [if_neg (by decide)]
      exact word_sign (w := 64) _ _ _ rfl

theorem cl_back {w x r : Nat} (h : Bk w x r) (hn : na 64 x = false) : r = back w x := h.num hn

theorem Whl.fits {w a x y : Nat} {way : Ieee.Toward} (hw : IsW w) (hx : Wor w a x) (hy : Whl way x y) : Fits w y := by
  cases hn : na w a with
  | false => exact (whl_back hw hx hy hn).2.1
  | true => intro _ h; rw [hy.nan (hx.nan hn)] at h; cases h

theorem round_rung_le {w a : Nat} (way : Ieee.Toward) (s : Bool) (hn : na w a = false) : roundF (fm w) way s (rung (fm w) a) ≤ (fm w).infRung := roundF_le (good w) _ _ (na_false hn)

theorem na_sum {w a r : Nat} (h : r ≤ (fm w).infRung) : na w (signOf w a + r) = false := by
  have := inf_lt_sw (fm w)
  rw [← word_sign (w := w) _ a r rfl]
  unfold na
  rw [rung_word _ _ (by omega)]
  exact decide_eq_false (by unfold infN; omega)

theorem rnd_of {w a x y r : Nat} {way : Ieee.Toward} (hw : IsW w) (hx : Wor w a x) (hy : Whl way x y) (hr : Bk w y r) : cl w r = rndN way w a := by
  unfold rndN
  cases hn : na w a with
  | true =>
    rw [if_pos rfl]
    exact cl_nan (hr.nan (hy.nan (hx.nan hn)))
  | false =>
    obtain ⟨h1, _, h3⟩ := whl_back hw hx hy hn
    rw [if_neg (by decide), hr.num h1, h3]
    unfold cl
    rw [if_neg (by rw [na_sum (round_rung_le way _ hn)]; decide)]

/-! roots -/

theorem sqN_le (w r : Nat) : sqN w r ≤ (fm w).infRung := by
  unfold sqN fm
  split
  · exact sqS_le r
  · exact sqR_le r
theorem sqR_inf : sqR Ieee.double.infRung = Ieee.double.infRung := by decide +kernel

theorem sq_back {w a x y : Nat} (hw : IsW w) (hx : Wor w a x) (hy : Sq x y) (hn : (na w a || (neg (fm w) a && rung (fm w) a != 0)) = false) :
    na 64 y = false ∧ Fits w y ∧ back w y = signOf w a + sqN w (rung (fm w) a) := by
  have hna : na w a = false := by cases h : na w a <;> simp_all
  have hng : (neg (fm w) a && rung (fm w) a != 0) = false := by rw [hna] at hn; exact hn
  have h1 := na_false hna
  have e := hx.na_eq hw
  rw [hna] at e
  have hld := inf_lt_sw Ieee.double
  have hq : (na 64 x || (neg Ieee.double x && rung Ieee.double x != 0)) = false := by
    rw [e, hx.num hna]
    rcases hw with rfl | rfl
    · change rung Ieee.single a ≤ Ieee.single.infRung at h1
      simp only [worthN, if_pos, wn_neg h1, wn_rung h1, Bool.false_or]
      change (neg Ieee.single a && rung Ieee.single a != 0) = false at hng
      have hz := prom_zero_iff h1
      cases hs : neg Ieee.single a
      · rfl
      · rw [hs] at hng
        simp only [Bool.true_and, bne_eq_false_iff_eq] at hng ⊢
        exact hz.2 hng
    · exact hng
  rw [hy.num hq, hx.num hna]
  have hle := sqR_le (rung Ieee.double (worthN w a))
  rcases hw with rfl | rfl
  · change rung Ieee.single a ≤ Ieee.single.infRung at h1
    simp only [worthN, if_pos, wn_neg h1, wn_rung h1] at hle ⊢
    refine ⟨?_, ?_, ?_⟩
    · unfold na
      rw [fm64, rung_word _ _ (by omega)]
      exact decide_eq_false (by unfold infN; rw [fm64]; omega)
    · intro _ _ h
      rw [rung_word _ _ (by omega)] at h ⊢
      rcases Nat.lt_or_ge (rung Ieee.single a) Ieee.single.infRung with c | c
      · exact sqS_lt c
      · have : rung Ieee.single a = Ieee.single.infRung := by omega
        rw [this, prom_inf, sqR_inf] at h
        omega
    · unfold back
      rw [if_pos rfl, neg_word _ _ (by omega), rung_word _ _ (by omega)]
      exact word_sign (w := 32) _ _ _ rfl
  · change rung Ieee.double a ≤ Ieee.double.infRung at h1
    simp only [worthN, show ¬ (64 = 32) by decide, if_false] at hle ⊢
    refine ⟨?_, fun h => absurd h (by decide), ?_⟩
    · unfold na
      rw [fm64, rung_word _ _ (by omega)]
      exact decide_eq_false (by unfold infN; rw [fm64]; omega)
    · unfold back
      rw [if_neg (by decide)]
      exact word_sign (w := 64) _ _ _ rfl

theorem sq_nan {w a x : Nat} (hw : IsW w) (hx : Wor w a x) (hn : (na w a || (neg (fm w) a && rung (fm w) a != 0)) = true) : (na 64 x || (neg Ieee.double x && rung Ieee.double x != 0)) = true := by
  cases h : na w a with
  | true => rw [hx.nan h]; rfl
  | false =>
    rw [h] at hn
    have h1 := na_false h
    rw [hx.na_eq hw, h, hx.num h]
    rcases hw with rfl | rfl
    · change rung Ieee.single a ≤ Ieee.single.infRung at h1
      have hz := prom_zero_iff h1
      simp only [worthN, if_pos, wn_neg h1, wn_rung h1, Bool.false_or]
      change (neg Ieee.single a && rung Ieee.single a != 0) = true at hn
      simp only [Bool.and_eq_true, bne_iff_ne, ne_eq] at hn ⊢
      exact ⟨hn.1, fun c => hn.2 (hz.1 c)⟩
    · exact hn
theorem Sq.fits {w a x y : Nat} (hw : IsW w) (hx : Wor w a x) (hy : Sq x y) : Fits w y := by
  cases hn : (na w a || (neg (fm w) a && rung (fm w) a != 0)) with
  | false => exact (sq_back hw hx hy hn).2.1
  | true => intro _ h; rw [hy.nan (sq_nan hw hx hn)] at h; cases h
theorem root_of {w a x y r : Nat} (hw : IsW w) (hx : Wor w a x) (hy : Sq x y) (hr : Bk w y r) : cl w r = rootN w a := by
  unfold rootN
  cases hn : (na w a || (neg (fm w) a && rung (fm w) a != 0)) with
  | true =>
    rw [if_pos rfl]
    exact cl_nan (hr.nan (hy.nan (sq_nan hw hx hn)))
  | false =>
    obtain ⟨h1, _, h3⟩ := sq_back hw hx hy hn
    rw [if_neg (by decide), hr.num h1, h3]
    unfold cl
    rw [if_neg (by rw [na_sum (sqN_le w _)]; decide)]
end Go.Proofs.YtpeckiaimellmaaDoor.F
