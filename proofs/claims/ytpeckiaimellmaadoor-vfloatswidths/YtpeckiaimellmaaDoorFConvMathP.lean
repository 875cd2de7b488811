/-
  Plain mathematics of conversions: what a float is when it is cut to a whole number, the order of whole floats. No program is named here.
-/
import Derived.Test.YtpeckiaimellmaaDoorFFloAnsP
set_option linter.unusedVariables false
set_option linter.unusedSimpArgs false
namespace Go.Proofs.YtpeckiaimellmaaDoor.F.C
open Flo

/-- A double's worth without its sign, rounded to 0; what is endless counts as a power of two beyond all numbers. -/
def tr (x : Nat) : Nat := mval Ieee.double (rung Ieee.double x) / unit Ieee.double
def trI (x : Nat) : Int := sgn (neg Ieee.double x) (tr x)
/-- It is a number, and whole. -/
structure Wh (x : Nat) : Prop where
  num : na 64 x = false
  dvd : unit Ieee.double ∣ mval Ieee.double (rung Ieee.double x)

theorem Wh.mval {x : Nat} (h : Wh x) : Flo.mval Ieee.double (rung Ieee.double x) = tr x * unit Ieee.double := (Nat.div_mul_cancel h.dvd).symm

theorem order_whole {x c : Nat} (hx : Wh x) (hc : Wh c) : Ieee.double.order x c = some (compare (trI x) (trI c)) := by
  rw [order_place good_double (na_false (w := 64) hx.num) (na_false (w := 64) hc.num)]
  congr 1
  have hu := unit_pos Ieee.double
  have ex := hx.mval
  have ec := hc.mval
  have key : ∀ {r q a b : Nat}, mval Ieee.double r = a * unit Ieee.double → mval Ieee.double q = b * unit Ieee.double → (a < b ↔ r < q) := fun {r q a b} h1 h2 => by
    rw [← mval_lt_iff Ieee.double (r := r) (s := q), h1, h2]
    exact (Nat.mul_lt_mul_right hu).symm
  have key0 : ∀ {r a : Nat}, mval Ieee.double r = a * unit Ieee.double → (a = 0 ↔ r = 0) := fun {r a} h1 => by
    have := key (r := 0) (q := r) (a := 0) (b := a) (by rw [mval_zero]; omega) h1
    omega
  have h1 := key ex ec
  have h2 := key ec ex
  have h3 := key0 ex
  have h4 := key0 ec
  unfold place trI
  apply cmp_congr <;> unfold sgn <;> cases neg Ieee.double x <;> cases neg Ieee.double c <;> simp <;> omega

theorem tr_round {x y : Nat} (hx : na 64 x = false) (h : Whl .zero x y) : Wh y ∧ trI y = trI x := by
  have h1 : rung Ieee.double x ≤ Ieee.double.infRung := na_false hx
  have hle := roundF_le good_double .zero (neg Ieee.double x) h1
  have hsw := inf_lt_sw Ieee.double
  have e := h.num hx
  have er : rung Ieee.double y = roundF Ieee.double .zero (neg Ieee.double x) (rung Ieee.double x) := by rw [e]; exact rung_word _ _ (by omega)
  have en : neg Ieee.double y = neg Ieee.double x := by rw [e]; exact neg_word _ _ (by omega)
  refine ⟨⟨?_, ?_⟩, ?_⟩
  · unfold na
    rw [fm64, er]
    exact decide_eq_false (by unfold infN; rw [fm64]; omega)
  · rw [er]; exact round_dvd good_double ..
  · unfold trI tr
    rw [en, er, roundF_worth good_double]
    rw [Nat.mul_div_cancel _ (unit_pos _)]
    rw [unit_pow]
    generalize points Ieee.double = P
    rfl

theorem toInt_tr {x : Nat} (h : rung Ieee.double x < Ieee.double.infRung) : (Ieee.double.read x).toInt .zero = some (trI x) := by
  obtain ⟨m, k, _, _, e, hr⟩ := parts_of good_double h
  rw [hr x rfl]
  simp only [Ieee.Datum.toInt, Ieee.Datum.integral, cut_eq, Nat.shiftLeft_eq, signed_eq, Nat.pow_zero, Nat.mul_one]
  unfold trI tr
  rw [e, unit_pow]
  congr 2
  have hp : Ieee.double.leastPlace = -(points Ieee.double : Int) := by decide +kernel
  rw [hp]
  generalize points Ieee.double = P
  have hz : ∀ n d : Nat, cutS .zero (neg Ieee.double x) n d = n / 2 ^ d := fun n d => rfl
  rw [hz]
  rcases Nat.lt_or_ge k P with d | d
  · rw [show (-(P : Int) + (k : Int)).toNat = 0 by omega, show (-(-(P : Int) + (k : Int))).toNat = P - k by omega, Nat.pow_zero, Nat.mul_one]
    rw [show P = (P - k) + k by omega, Nat.pow_add, show P - k + k - k = P - k by omega, Nat.mul_div_mul_right _ _ (Nat.two_pow_pos _)]
  · rw [show (-(P : Int) + (k : Int)).toNat = k - P by omega, show (-(-(P : Int) + (k : Int))).toNat = 0 by omega, Nat.pow_zero, Nat.div_one]
    rw [show k = (k - P) + P by omega, Nat.pow_add, show k - P + P - P = k - P by omega, ← Nat.mul_assoc, Nat.mul_div_cancel _ (Nat.two_pow_pos _)]

theorem tr_inf {x : Nat} (h : rung Ieee.double x = Ieee.double.infRung) : 2 ^ 64 < tr x := by
  unfold tr; rw [h]; decide +kernel

/-! what fits -/

def lowI (to : Nat) (sg : Bool) : Int := if sg then -((2 ^ (to - 1) : Nat) : Int) else 0
def endI (to : Nat) (sg : Bool) : Int := if sg then ((2 ^ (to - 1) : Nat) : Int) else ((2 ^ to : Nat) : Int)
/-- What a whole number is held to, and whether it fits. -/
def holdV (to : Nat) (sg : Bool) (v : Int) : Nat × Bool :=
  if v < lowI to sg then ((lowI to sg % ((2 ^ to : Nat) : Int)).toNat, false) else if endI to sg ≤ v then ((endI to sg - 1).toNat, false) else ((v % ((2 ^ to : Nat) : Int)).toNat, true)
def holdN (to : Nat) (sg : Bool) (x : Nat) : Nat × Bool := if na 64 x then (0, false) else holdV to sg (trI x)
def cutN (fr to : Nat) (sg : Bool) (a : Nat) : Nat × Bool := if na fr a then (0, false) else holdV to sg (trI (worthN fr a))

theorem hold_cut {fr to a x : Nat} {sg : Bool} (hw : IsW fr) (h : Wor fr a x) : holdN to sg x = cutN fr to sg a := by
  unfold holdN cutN
  rw [h.na_eq hw]
  cases c : na fr a with
  | true => rfl
  | false => rw [h.num c]

theorem bound_low32 : Wh 13970166044103278592 ∧ trI 13970166044103278592 = -2147483648 := ⟨⟨by decide +kernel, by decide +kernel⟩, by decide +kernel⟩
theorem bound_end32 : Wh 4746794007248502784 ∧ trI 4746794007248502784 = 2147483648 := ⟨⟨by decide +kernel, by decide +kernel⟩, by decide +kernel⟩
theorem bound_low64 : Wh 14114281232179134464 ∧ trI 14114281232179134464 = -9223372036854775808 := ⟨⟨by decide +kernel, by decide +kernel⟩, by decide +kernel⟩
theorem bound_end64 : Wh 4890909195324358656 ∧ trI 4890909195324358656 = 9223372036854775808 := ⟨⟨by decide +kernel, by decide +kernel⟩, by decide +kernel⟩
theorem bound_zero : Wh 0 ∧ trI 0 = 0 := ⟨⟨by decide +kernel, by decide +kernel⟩, by decide +kernel⟩
theorem bound_u32 : Wh 4751297606875873280 ∧ trI 4751297606875873280 = 4294967296 := ⟨⟨by decide +kernel, by decide +kernel⟩, by decide +kernel⟩
theorem bound_u64 : Wh 4895412794951729152 ∧ trI 4895412794951729152 = 18446744073709551616 := ⟨⟨by decide +kernel, by decide +kernel⟩, by decide +kernel⟩

/-! whole numbers made floats -/

def magOf (fr : Nat) (sg : Bool) (a : Nat) : Nat := if sg && decide (2 ^ (fr - 1) ≤ a) then 2 ^ fr - a else a
def negOf (fr : Nat) (sg : Bool) (a : Nat) : Bool := sg && decide (2 ^ (fr - 1) ≤ a)
/-- What a whole number is worth. -/
def valI (fr : Nat) (sg : Bool) (a : Nat) : Int := sgn (negOf fr sg a) (magOf fr sg a)
def fltN (fr to : Nat) (sg : Bool) (a : Nat) : Nat := (fm to).word (negOf fr sg a) (rungOf (fm to) (magOf fr sg a) 0)

theorem floatOf {fr to a : Nat} {sg : Bool} (hf : IsW fr) (ha : a < 2 ^ fr) : floatOfInt (kindOf to) (valI fr sg a) = fltN fr to sg a := by
  have e : ∀ d, (kindOf to).encode d = (fm to).write d := fun d => by unfold FloatKind.encode; rw [kind_fm]
  unfold floatOfInt FloatKind.nearest
  rw [e, write_number]
  unfold fltN
  have h1 : decide (valI fr sg a < 0) = negOf fr sg a := by
    unfold valI sgn
    cases c : negOf fr sg a
    · simp
    · have : sg = true ∧ 2 ^ (fr - 1) ≤ a := by simpa [negOf] using c
      simp [magOf, this.1, this.2]
      omega
  have h2 : (valI fr sg a).natAbs = magOf fr sg a := by
    unfold valI sgn
    cases negOf fr sg a <;> simp
  rw [h1, h2]

/-! demotion -/

def beyond : Nat := 5183643170835005440
theorem dem_beyond : dem beyond = Ieee.single.infRung := by decide +kernel
theorem dem_below : dem (beyond - 1) < Ieee.single.infRung := by decide +kernel
theorem dem_less {r : Nat} (h : r < beyond) : dem r < Ieee.single.infRung :=
  Nat.lt_of_le_of_lt (dem_mono (by omega)) dem_below
theorem dem_great {r : Nat} (h : beyond ≤ r) : dem r = Ieee.single.infRung := by
  have := dem_mono h
  rw [dem_beyond] at this
  have := dem_le r
  omega
def promN (a : Nat) : Nat := if na 32 a then nanN 64 else worthN 32 a
def demN (a : Nat) : Nat := if na 64 a then nanN 32 else back 32 a
end Go.Proofs.YtpeckiaimellmaaDoor.F.C
