/-
  What follows: what is held, what comes back, what rises. No program is named here.
-/
import Derived.Test.YtpeckiaimellmaaDoorFConvRMathP
set_option linter.unusedVariables false
set_option linter.unusedSimpArgs false
namespace Go.Proofs.YtpeckiaimellmaaDoor.F.C
open Flo

/-! held -/

def lowN (to : Nat) (sg : Bool) : Nat := if sg then 2 ^ (to - 1) else 0
def highN (to : Nat) (sg : Bool) : Nat := if sg then 2 ^ (to - 1) - 1 else 2 ^ to - 1
theorem held_bound {to : Nat} (hw : IsW to) (sg : Bool) (v : Int) (h : (holdV to sg v).2 = false) : (holdV to sg v).1 = lowN to sg ∨ (holdV to sg v).1 = highN to sg := by
  unfold holdV at *
  split at h
  · left
    rename_i c
    rw [if_pos c]
    rcases hw with rfl | rfl <;> cases sg <;> decide
  · split at h
    · right
      rename_i c d
      rw [if_neg c, if_pos d]
      rcases hw with rfl | rfl <;> cases sg <;> decide
    · cases h
theorem cut_none {fr to a : Nat} {sg : Bool} (h : na fr a = true) : cutN fr to sg a = (0, false) := by unfold cutN; rw [h]; rfl
theorem cut_bound {fr to a : Nat} {sg : Bool} (hw : IsW to) (hn : na fr a = false) {r : Nat} (h : cutN fr to sg a = (r, false)) : r = lowN to sg ∨ r = highN to sg := by
  unfold cutN at h
  rw [hn, if_neg (by decide)] at h
  have := held_bound hw sg (trI (worthN fr a)) (by rw [h])
  rw [h] at this
  exact this

/-! back -/

theorem dem_nan : demN 9221120237041090560 = 2143289344 := by decide +kernel
theorem dem_worth {a : Nat} (ha : a < 2 ^ 32) (hn : na 32 a = false) : demN (worthN 32 a) = a := by
  have h1 : rung Ieee.single a ≤ Ieee.single.infRung := na_false hn
  have hsw := inf_lt_sw Ieee.double
  have h2 := prom_le h1
  unfold demN worthN back
  rw [if_pos rfl, if_pos rfl]
  have h3 : na 64 (Ieee.double.word (neg Ieee.single a) (prom (rung Ieee.single a))) = false := by
    unfold na
    rw [fm64, rung_word _ _ (by omega)]
    exact decide_eq_false (by unfold infN; rw [fm64]; omega)
  rw [h3, if_neg (by decide), neg_word _ _ (by omega), rung_word _ _ (by omega), dem_prom h1]
  exact word_parts Ieee.single (by rw [show Ieee.single.width = 32 from rfl]; exact ha)
theorem worth_lt {a : Nat} (hn : na 32 a = false) : worthN 32 a < 2 ^ 64 := by
  have h1 : rung Ieee.single a ≤ Ieee.single.infRung := na_false hn
  have hsw := inf_lt_sw Ieee.double
  have h2 := prom_le h1
  unfold worthN
  rw [if_pos rfl]
  exact Ieee.double.word_lt _ (by omega)

/-! whole numbers of few digits -/

theorem flt_exact {fr m : Nat} {ng : Bool} (hm : m ≤ 2 ^ 52) : trI (Ieee.double.word ng (rungOf Ieee.double m 0)) = sgn ng m ∧ na 64 (Ieee.double.word ng (rungOf Ieee.double m 0)) = false := by
  have hl : m.log2 ≤ 52 := by
    by_cases h0 : m = 0
    · rw [h0]; simp
    · have := (Nat.log2_lt h0).2 (show m < 2 ^ 53 by omega); omega
  have hp : Ieee.double.leastPlace = -1074 := lp_double
  obtain ⟨h1, h2⟩ := rung_exact Ieee.double (m := m) (p := 0) (Nat.lt_of_le_of_lt hm (by decide)) (by rw [hp]; decide) (by
    rw [hp]
    show (0 + (m.log2 : Int) - 52 - -1074 + 3 : Int) ≤ 2048
    omega) (by decide)
  have hsw := inf_lt_sw Ieee.double
  have hr : rung Ieee.double (Ieee.double.word ng (rungOf Ieee.double m 0)) = rungOf Ieee.double m 0 := rung_word _ _ (by omega)
  have hn : neg Ieee.double (Ieee.double.word ng (rungOf Ieee.double m 0)) = ng := neg_word _ _ (by omega)
  refine ⟨?_, ?_⟩
  · unfold trI tr
    rw [hr, hn, h2]
    have : unit Ieee.double = 2 ^ (0 - Ieee.double.leastPlace).toNat := by
      rw [unit_pow]
      congr 1
    rw [this, Nat.mul_div_cancel _ (Nat.two_pow_pos _)]
  · unfold na
    rw [fm64, hr]
    exact decide_eq_false (by unfold infN; rw [fm64]; omega)
theorem mag_whole {v : Int} (h1 : -4503599627370496 ≤ v) (h2 : v ≤ 4503599627370496) : magOf 64 true (v % 18446744073709551616).toNat = v.natAbs ∧ negOf 64 true (v % 18446744073709551616).toNat = decide (v < 0) := by
  unfold magOf negOf
  by_cases c : v < 0
  · have hx : (v % 18446744073709551616).toNat = (v + 18446744073709551616).toNat := by omega
    rw [hx]
    have h : 2 ^ (64 - 1) ≤ (v + 18446744073709551616).toNat := by show 9223372036854775808 ≤ _; omega
    rw [decide_eq_true h, decide_eq_true c]
    refine ⟨?_, rfl⟩
    rw [if_pos (show (true && true) = true from rfl)]
    show 18446744073709551616 - _ = _
    omega
  · have hx : (v % 18446744073709551616).toNat = v.toNat := by omega
    rw [hx]
    have h : ¬ 2 ^ (64 - 1) ≤ v.toNat := by show ¬ 9223372036854775808 ≤ _; omega
    rw [decide_eq_false h, decide_eq_false c]
    refine ⟨?_, rfl⟩
    rw [if_neg (by decide)]
    omega
theorem whole_back {v : Int} (h1 : -4503599627370496 ≤ v) (h2 : v ≤ 4503599627370496) : cutN 64 64 true (fltN 64 64 true (v % 18446744073709551616).toNat) = ((v % 18446744073709551616).toNat, true) := by
  obtain ⟨e1, e2⟩ := mag_whole h1 h2
  obtain ⟨f1, f2⟩ := flt_exact (fr := 64) (m := v.natAbs) (ng := decide (v < 0)) (by omega)
  unfold fltN cutN
  rw [e1, e2, fm64, f2, if_neg (by decide)]
  unfold worthN
  rw [if_neg (by decide), f1]
  have : sgn (decide (v < 0)) v.natAbs = v := by
    unfold sgn
    by_cases c : v < 0
    · rw [decide_eq_true c]; simp; omega
    · rw [decide_eq_false c]; simp; omega
  rw [this]
  unfold holdV
  rw [if_neg (by show ¬ v < -9223372036854775808; omega), if_neg (by show ¬ (9223372036854775808 : Int) ≤ v; omega)]
  rfl
theorem whole_backU {n : Nat} (h2 : n ≤ 4503599627370496) : cutN 64 64 false (fltN 64 64 false n) = (n, true) ∧ fltN 64 64 false n = fltN 64 64 true n := by
  obtain ⟨f1, f2⟩ := flt_exact (fr := 64) (m := n) (ng := false) (by omega)
  have e : fltN 64 64 false n = Ieee.double.word false (rungOf Ieee.double n 0) := rfl
  refine ⟨?_, ?_⟩
  · rw [e]
    unfold cutN
    rw [f2, if_neg (by decide)]
    unfold worthN
    rw [if_neg (by decide), f1]
    unfold holdV sgn
    simp only [Bool.false_eq_true, if_false]
    rw [if_neg (by show ¬ (n : Int) < 0; omega), if_neg (by show ¬ (18446744073709551616 : Int) ≤ n; omega)]
    congr 1
    show ((n : Int) % 18446744073709551616).toNat = n
    omega
  · have c : ¬ 9223372036854775808 ≤ n := by omega
    unfold fltN magOf negOf
    simp only [Bool.true_and, show 2 ^ (64 - 1) = 9223372036854775808 by decide, decide_eq_false c, Bool.false_and]

/-! what rises -/

theorem sgn_mono {s t : Bool} {r q : Nat} {P : Nat → Nat} (hP : ∀ {x y : Nat}, x ≤ y → P x ≤ P y) (h0 : P 0 = 0) (h : sgn s r ≤ sgn t q) : sgn s (P r) ≤ sgn t (P q) := by
  unfold sgn at *
  cases s <;> cases t <;> simp at h ⊢
  · have := hP (x := r) (y := q) (by omega); omega
  · have e1 : r = 0 := by omega
    have e2 : q = 0 := by omega
    subst e1 e2
    omega
  · have := hP (x := q) (y := r) (by omega); omega
theorem le_of_lt_mval {f : Ieee.Format} {x y : Nat} (h : x ≤ y) : mval f x ≤ mval f y := by
  rcases Nat.lt_or_ge x y with c | c
  · exact Nat.le_of_lt (mval_lt f c)
  · rw [show x = y by omega]; exact Nat.le_refl _
theorem prom_mono {x y : Nat} (hy : y ≤ Ieee.single.infRung) (h : x ≤ y) : prom x ≤ prom y := by
  rcases Nat.lt_or_ge x y with c | c
  · exact Nat.le_of_lt (prom_lt c hy)
  · rw [show x = y by omega]; exact Nat.le_refl _
theorem tr_rises {w a b : Nat} (hw : IsW w) (ha : na w a = false) (hb : na w b = false) (h : place (fm w) a ≤ place (fm w) b) : trI (worthN w a) ≤ trI (worthN w b) := by
  have d0 : ∀ {x y : Nat}, x ≤ y → mval Ieee.double x / unit Ieee.double ≤ mval Ieee.double y / unit Ieee.double := fun h => Nat.div_le_div_right (le_of_lt_mval h)
  have z0 : mval Ieee.double 0 / unit Ieee.double = 0 := by rw [mval_zero]; simp
  have h1 := na_false ha
  have h2 := na_false hb
  rcases hw with rfl | rfl
  · rw [fm32] at h1 h2
    unfold trI tr worthN
    rw [if_pos rfl, if_pos rfl, wn_neg h1, wn_neg h2, wn_rung h1, wn_rung h2]
    have k := sgn_mono (P := fun x => mval Ieee.double (prom (min x Ieee.single.infRung)) / unit Ieee.double) (fun h => d0 (prom_mono (Nat.min_le_right ..) (by omega))) (by simp [prom_zero, mval_zero]) (s := neg Ieee.single a) (t := neg Ieee.single b) h
    have m1 : min (rung Ieee.single a) Ieee.single.infRung = rung Ieee.single a := Nat.min_eq_left h1
    have m2 : min (rung Ieee.single b) Ieee.single.infRung = rung Ieee.single b := Nat.min_eq_left h2
    simp only [fm32, m1, m2] at k
    exact k
  · unfold trI tr worthN
    rw [if_neg (by decide), if_neg (by decide)]
    exact sgn_mono (P := fun x => mval Ieee.double x / unit Ieee.double) d0 z0 h

/-- The number that a worth is held to. -/
def clampI (to : Nat) (sg : Bool) (v : Int) : Int := if v < lowI to sg then lowI to sg else if endI to sg ≤ v then endI to sg - 1 else v
theorem clamp_mono {to : Nat} (hw : IsW to) (sg : Bool) {u v : Int} (h : u ≤ v) : clampI to sg u ≤ clampI to sg v := by
  have : lowI to sg < endI to sg := by rcases hw with rfl | rfl <;> cases sg <;> decide
  unfold clampI
  split <;> split <;> (try split) <;> (try split) <;> omega
theorem held_val {to : Nat} (hw : IsW to) (sg : Bool) (v : Int) : valI to sg (holdV to sg v).1 = clampI to sg v := by
  unfold holdV clampI
  by_cases c : v < lowI to sg
  · rw [if_pos c, if_pos c]
    rcases hw with rfl | rfl <;> cases sg <;> decide
  · rw [if_neg c, if_neg c]
    by_cases d : endI to sg ≤ v
    · rw [if_pos d, if_pos d]
      rcases hw with rfl | rfl <;> cases sg <;> decide
    · rw [if_neg d, if_neg d]
      unfold valI negOf magOf sgn
      rcases hw with rfl | rfl <;> cases sg
      · have c1 : ¬ v < 0 := c
        have d1 : ¬ (4294967296 : Int) ≤ v := d
        simp; omega
      · have c1 : ¬ v < -2147483648 := c
        have d1 : ¬ (2147483648 : Int) ≤ v := d
        by_cases e : 2147483648 ≤ (v % 4294967296).toNat
        · simp [e]; omega
        · simp [e]; omega
      · have c1 : ¬ v < 0 := c
        have d1 : ¬ (18446744073709551616 : Int) ≤ v := d
        simp; omega
      · have c1 : ¬ v < -9223372036854775808 := c
        have d1 : ¬ (9223372036854775808 : Int) ≤ v := d
        by_cases e : 9223372036854775808 ≤ (v % 18446744073709551616).toNat
        · simp [e]; omega
        · simp [e]; omega
theorem held_lt {to : Nat} (hw : IsW to) (sg : Bool) (v : Int) : (holdV to sg v).1 < 2 ^ to := by
  unfold holdV
  rcases hw with rfl | rfl
  · cases sg
    · split
      · decide
      · split
        · decide
        · show (v % 4294967296).toNat < 4294967296; omega
    · split
      · decide
      · split
        · decide
        · show (v % 4294967296).toNat < 4294967296; omega
  · cases sg
    · split
      · decide
      · split
        · decide
        · show (v % 18446744073709551616).toNat < 18446744073709551616; omega
    · split
      · decide
      · split
        · decide
        · show (v % 18446744073709551616).toNat < 18446744073709551616; omega
theorem cut_lt2 {fr to a : Nat} {sg : Bool} (hw : IsW to) : (cutN fr to sg a).1 < 2 ^ to := by
  unfold cutN
  split
  · exact Nat.two_pow_pos to
  · exact held_lt hw sg _
theorem cut_rises {fr to a b : Nat} {sg : Bool} (hf : IsW fr) (ht : IsW to) (ha : na fr a = false) (hb : na fr b = false) (h : place (fm fr) a ≤ place (fm fr) b) : valI to sg (cutN fr to sg a).1 ≤ valI to sg (cutN fr to sg b).1 := by
  unfold cutN
  rw [ha, hb, if_neg (by decide), if_neg (by decide), held_val ht, held_val ht]
  exact clamp_mono ht sg (tr_rises hf ha hb h)

theorem flt_num {fr to a : Nat} {sg : Bool} : na to (fltN fr to sg a) = false ∧ place (fm to) (fltN fr to sg a) = sgn (negOf fr sg a) (rungOf (fm to) (magOf fr sg a) 0) := by
  have hsw := inf_lt_sw (fm to)
  have h := rung_le_inf (fm to) (magOf fr sg a) 0
  unfold na place fltN infN
  rw [rung_word _ _ (by omega), neg_word _ _ (by omega)]
  exact ⟨decide_eq_false (by omega), rfl⟩
theorem flt_rises {fr to a b : Nat} {sg : Bool} (h : valI fr sg a ≤ valI fr sg b) : place (fm to) (fltN fr to sg a) ≤ place (fm to) (fltN fr to sg b) := by
  rw [flt_num.2, flt_num.2]
  exact sgn_mono (P := fun m => rungOf (fm to) m 0) (fun h => rung_mono_at _ _ h) (by unfold rungOf; rw [if_pos rfl]) h
end Go.Proofs.YtpeckiaimellmaaDoor.F.C
