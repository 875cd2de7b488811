/-
  What each operator of floats answers, as plain functions on words; what the model's ways give. No program is named here.
-/
import Derived.Test.YtpeckiaimellmaaDoorFFloBitsP
import Derived.Laws.FloatArith
set_option linter.unusedVariables false
set_option linter.unusedSimpArgs false
namespace Go.Proofs.YtpeckiaimellmaaDoor.F
open Flo

/-! the order -/

def lessN (w a b : Nat) : Bool := !na w a && !na w b && decide (place (fm w) a < place (fm w) b)
def sameN (w a b : Nat) : Bool := !na w a && !na w b && decide (place (fm w) a = place (fm w) b)

theorem na_false {w a : Nat} (h : na w a = false) : rung (fm w) a ≤ (fm w).infRung := by
  unfold na infN at h
  have := of_decide_eq_false h
  omega
theorem na_true {w a : Nat} (h : na w a = true) : (fm w).infRung < rung (fm w) a := of_decide_eq_true h

/-- The double that a float is. -/
def worthN (w a : Nat) : Nat := if w = 32 then Ieee.double.word (neg Ieee.single a) (prom (rung Ieee.single a)) else a
structure Wor (w a x : Nat) : Prop where
  lt : x < 2 ^ 64
  nan : na w a = true → na 64 x = true
  num : na w a = false → x = worthN w a

theorem Wor.na_eq {w a x : Nat} (hw : IsW w) (h : Wor w a x) : na 64 x = na w a := by
  cases c : na w a with
  | true => exact h.nan c
  | false =>
    rw [h.num c]
    rcases hw with rfl | rfl
    · have h1 := na_false c
      have hlt := inf_lt_sw Ieee.double
      have h2 := prom_le h1
      unfold na worthN infN
      rw [if_pos rfl, fm64]
      change rung Ieee.single a ≤ Ieee.single.infRung at h1
      rw [rung_word _ _ (by have := prom_le h1; omega)]
      have := prom_le h1
      exact decide_eq_false (by omega)
    · exact c

theorem cmp_lt_iff {a b : Int} : (some (compare a b) == some Ordering.lt) = decide (a < b) := by
  rcases Int.lt_trichotomy a b with c | c | c
  · rw [cmp_of_lt c]; simp [c]
  · rw [cmp_of_eq c]; simp [c]
  · rw [cmp_of_gt c]; simp; omega
theorem cmp_gt_iff {a b : Int} : (some (compare a b) == some Ordering.gt) = decide (b < a) := by
  rcases Int.lt_trichotomy a b with c | c | c
  · rw [cmp_of_lt c]; simp; omega
  · rw [cmp_of_eq c]; simp [c]
  · rw [cmp_of_gt c]; simp [c]
theorem cmp_eq_iff {a b : Int} : (some (compare a b) == some Ordering.eq) = decide (a = b) := by
  rcases Int.lt_trichotomy a b with c | c | c
  · rw [cmp_of_lt c]; simp; omega
  · rw [cmp_of_eq c]; simp [c]
  · rw [cmp_of_gt c]; simp; omega

theorem order_some {w a b x y : Nat} (hw : IsW w) (hx : Wor w a x) (hy : Wor w b y) (ha : na w a = false) (hb : na w b = false) :
    Ieee.double.order x y = some (compare (place (fm w) a) (place (fm w) b)) := by
  rw [hx.num ha, hy.num hb]
  have h1 := na_false ha
  have h2 := na_false hb
  rcases hw with rfl | rfl
  · exact order_prom h1 h2
  · exact order_place good_double h1 h2
theorem order_none {w a b x y : Nat} (hw : IsW w) (hx : Wor w a x) (hy : Wor w b y) (h : na w a = true ∨ na w b = true) : Ieee.double.order x y = none := by
  rcases h with h | h
  · exact order_nan_l good_double (na_true (hx.nan h))
  · exact order_nan_r good_double (na_true (hy.nan h))

theorem order_lt {w a b x y : Nat} (hw : IsW w) (hx : Wor w a x) (hy : Wor w b y) : (Ieee.double.order x y == some .lt) = lessN w a b := by
  unfold lessN
  cases ha : na w a
  · cases hb : na w b
    · rw [order_some hw hx hy ha hb, cmp_lt_iff]; rfl
    · rw [order_none hw hx hy (.inr hb)]; rfl
  · rw [order_none hw hx hy (.inl ha)]; rfl
theorem order_gt {w a b x y : Nat} (hw : IsW w) (hx : Wor w a x) (hy : Wor w b y) : (Ieee.double.order x y == some .gt) = lessN w b a := by
  unfold lessN
  cases ha : na w a
  · cases hb : na w b
    · rw [order_some hw hx hy ha hb, cmp_gt_iff]; rfl
    · rw [order_none hw hx hy (.inr hb)]; rfl
  · rw [order_none hw hx hy (.inl ha)]; cases na w b <;> rfl
theorem order_eq {w a b x y : Nat} (hw : IsW w) (hx : Wor w a x) (hy : Wor w b y) : (Ieee.double.order x y == some .eq) = sameN w a b := by
  unfold sameN
  cases ha : na w a
  · cases hb : na w b
    · rw [order_some hw hx hy ha hb, cmp_eq_iff]; rfl
    · rw [order_none hw hx hy (.inr hb)]; rfl
  · rw [order_none hw hx hy (.inl ha)]; rfl
theorem order_ne {w a b x y : Nat} (hw : IsW w) (hx : Wor w a x) (hy : Wor w b y) : (Ieee.double.order x y != some .eq) = !sameN w a b := by
  rw [bne, order_eq hw hx hy]

/-! what the operators answer -/

def arN (op w a b : Nat) : Nat :=
  ((match op with
    | 1 => (fm w).add a b
    | 2 => (fm w).sub a b
    | 3 => (fm w).mul a b
    | _ => (fm w).div a b)).getD (nanN w)
def leastN (low : Bool) (w a b : Nat) : Nat :=
  if na w a || na w b then nanN w else if sameN w a b then (if low then a ||| b else a &&& b) else if lessN w a b == low then a else b
def rndN (way : Ieee.Toward) (w a : Nat) : Nat := if na w a then nanN w else signOf w a + roundF (fm w) way (neg (fm w) a) (rung (fm w) a)
def sqN (w r : Nat) : Nat := if w = 32 then sqS r else sqR r
def rootN (w a : Nat) : Nat := if na w a || (neg (fm w) a && rung (fm w) a != 0) then nanN w else signOf w a + sqN w (rung (fm w) a)

def two (op w a b : Nat) : Nat × Nat :=
  match op with
  | 1 => (arN 1 w a b, 0)
  | 2 => (arN 2 w a b, 0)
  | 3 => (arN 3 w a b, 0)
  | 4 => (arN 4 w a b, 0)
  | 5 => (leastN true w a b, 0)
  | 6 => (leastN false w a b, 0)
  | 7 => (signOf w b + rung (fm w) a, 0)
  | 8 => (if lessN w b a then b else a, 0)
  | 9 => (if lessN w a b then b else a, 0)
  | _ => (0, 2)
def one (op w a : Nat) : Nat × Nat :=
  match op with
  | 10 => (rung (fm w) a, 0)
  | 11 => (flip w a, 0)
  | 12 => (rootN w a, 0)
  | 13 => (rndN .up w a, 0)
  | 14 => (rndN .down w a, 0)
  | 15 => (rndN .zero w a, 0)
  | 16 => (rndN .even w a, 0)
  | _ => (0, 2)
def than (op w a b : Nat) : Bool × Nat :=
  match op with
  | 17 => (sameN w a b, 0)
  | 18 => (!sameN w a b, 0)
  | 19 => (lessN w a b, 0)
  | 20 => (lessN w b a, 0)
  | 21 => (lessN w a b || sameN w a b, 0)
  | 22 => (lessN w b a || sameN w a b, 0)
  | _ => (false, 2)

/-! sums, differences, products, quotients -/

theorem write_num {f : Ieee.Format} (s : Bool) (m : Nat) (p : Int) : rung f (f.write (.number s m p)) ≤ f.infRung := by
  have := inf_lt_sw f
  have h := rung_le_inf f m p
  rw [write_number, rung_word _ _ (by omega)]
  exact h
theorem write_infi {f : Ieee.Format} (s : Bool) : rung f (f.write (.infinity s)) ≤ f.infRung := by
  have := inf_lt_sw f
  rw [write_inf, rung_word _ _ this]
  exact Nat.le_refl _
def Fine (d : Ieee.Datum) : Prop := d.isNaN = false
theorem write_fine {f : Ieee.Format} {d : Ieee.Datum} (h : Fine d) : rung f (f.write d) ≤ f.infRung := by
  cases d with
  | number s m p => exact write_num ..
  | infinity s => exact write_infi ..
  | nan s t => cases h
theorem sum_fine {c d e : Ieee.Datum} (h : c.sum d = some e) : Fine e := by
  unfold Ieee.Datum.sum at h
  split at h <;> try (cases h; done)
  · split at h <;> cases h; rfl
  · cases h; rfl
  · cases h; rfl
  · cases h; rfl
theorem product_fine {c d e : Ieee.Datum} (h : c.product d = some e) : Fine e := by
  unfold Ieee.Datum.product at h
  split at h <;> try (cases h; done)
  · cases h; rfl
  · split at h <;> cases h; rfl
  · split at h <;> cases h; rfl
  · cases h; rfl
theorem quotient_fine {n : Nat} {c d e : Ieee.Datum} (h : c.quotient n d = some e) : Fine e := by
  unfold Ieee.Datum.quotient at h
  split at h <;> try (cases h; done)
  · cases h; rfl
  · cases h; rfl
  · split at h
    · split at h <;> cases h; rfl
    · cases h; rfl
theorem map_fine {f : Ieee.Format} {d : Option Ieee.Datum} {r : Nat} (hf : ∀ e, d = some e → Fine e) (h : d.map f.write = some r) : rung f r ≤ f.infRung ∧ r < 2 ^ f.width := by
  cases d with
  | none => cases h
  | some d => cases h; exact ⟨write_fine (hf _ rfl), f.write_lt d⟩

def binOf (op : Nat) : BinOp := match op with | 1 => .add | 2 => .sub | 3 => .mul | _ => .quo
def kindOf (w : Nat) : FloatKind := if w = 32 then .f32 else .f64
theorem kind_fm (w : Nat) : (kindOf w).format = fm w := by unfold kindOf fm; split <;> rfl

theorem floatBits_ar (op w a b : Nat) (h1 : 1 ≤ op) (h2 : op ≤ 4) : (floatBits (binOf op) (kindOf w) a b).getD (nanN w) = arN op w a b := by
  rcases (show op = 1 ∨ op = 2 ∨ op = 3 ∨ op = 4 by omega) with rfl | rfl | rfl | rfl <;> simp only [floatBits, binOf, arN, kind_fm]
theorem floatBits_fine {op w a b r : Nat} (h : floatBits (binOf op) (kindOf w) a b = some r) : rung (fm w) r ≤ (fm w).infRung ∧ r < 2 ^ (fm w).width := by
  unfold floatBits at h
  rw [kind_fm] at h
  split at h
  · exact map_fine (fun e he => sum_fine he) h
  · exact map_fine (fun e he => sum_fine he) h
  · exact map_fine (fun e he => product_fine he) h
  · exact map_fine (fun e he => quotient_fine he) h
  · cases h

/-- What an operation of the model gives: its bits, or whatever NaN. -/
def Gives (w : Nat) (o : Option Nat) (r : Nat) : Prop := r < 2 ^ w ∧ cl w r = o.getD (nanN w)

theorem cl_num {w r : Nat} (h : rung (fm w) r ≤ (fm w).infRung) : cl w r = r := by
  unfold cl na infN
  rw [if_neg (by simp; omega)]
theorem cl_nan {w r : Nat} (h : na w r = true) : cl w r = nanN w := by unfold cl; rw [if_pos h]
theorem gives_some {op w a b r : Nat} (hw : IsW w) (h : floatBits (binOf op) (kindOf w) a b = some r) : Gives w (some r) r := by
  obtain ⟨h1, h2⟩ := floatBits_fine h
  rw [width_fm hw] at h2
  exact ⟨h2, cl_num h1⟩
theorem gives_nan {w r : Nat} (h : na w r = true) (hr : r < 2 ^ w) : Gives w none r := ⟨hr, cl_nan h⟩

/-- A NaN off the tape. -/
theorem nan_cut32 (t : Nat) : na 32 (t % 2 * 2 ^ 31 + 0x7f800000 + 1 + t / 2 % (2 ^ 23 - 1)) = true ∧ t % 2 * 2 ^ 31 + 0x7f800000 + 1 + t / 2 % (2 ^ 23 - 1) < 2 ^ 32 := by
  have h1 : t % 2 < 2 := Nat.mod_lt _ (by decide)
  have h2 : t / 2 % (2 ^ 23 - 1) < 2 ^ 23 - 1 := Nat.mod_lt _ (by decide)
  generalize t % 2 = s at *
  generalize t / 2 % (2 ^ 23 - 1) = u at *
  refine ⟨?_, by omega⟩
  unfold na rung
  rw [inf32, fm32, sw_single]
  apply decide_eq_true
  omega
theorem nan_cut64 (t : Nat) : na 64 (t % 2 * 2 ^ 63 + 0x7ff0000000000000 + 1 + t / 2 % (2 ^ 52 - 1)) = true ∧ t % 2 * 2 ^ 63 + 0x7ff0000000000000 + 1 + t / 2 % (2 ^ 52 - 1) < 2 ^ 64 := by
  have h1 : t % 2 < 2 := Nat.mod_lt _ (by decide)
  have h2 : t / 2 % (2 ^ 52 - 1) < 2 ^ 52 - 1 := Nat.mod_lt _ (by decide)
  generalize t % 2 = s at *
  generalize t / 2 % (2 ^ 52 - 1) = u at *
  refine ⟨?_, by omega⟩
  unfold na rung
  rw [inf64, fm64, sw_double]
  apply decide_eq_true
  omega
end Go.Proofs.YtpeckiaimellmaaDoor.F
