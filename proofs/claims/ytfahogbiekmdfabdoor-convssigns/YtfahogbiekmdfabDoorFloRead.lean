/-
  Words as signs and rungs: reading, writing, the order, from one format to another. No program is named here.
-/
import Derived.Test.YtfahogbiekmdfabDoorFloMath
namespace Go.Proofs.YtfahogbiekmdfabDoor.Flo
open Ieee
set_option linter.unusedVariables false

def neg (f : Format) (x : Nat) : Bool := x / f.signWeight % 2 == 1
def rung (f : Format) (x : Nat) : Nat := x % f.signWeight
/-- A number with its sign. -/
def sgn (s : Bool) (n : Nat) : Int := if s then -(n : Int) else n

theorem sign_pos (f : Format) : 0 < f.signWeight := Nat.two_pow_pos _
theorem rung_lt (f : Format) (x : Nat) : rung f x < f.signWeight := Nat.mod_lt _ (sign_pos f)
theorem width_sign (f : Format) : 2 ^ f.width = 2 * f.signWeight := by
  unfold Format.width Format.signWeight
  rw [Nat.add_assoc, Nat.add_comm 1, Nat.pow_succ, Nat.mul_comm]
theorem word_parts (f : Format) {x : Nat} (h : x < 2 ^ f.width) : f.word (neg f x) (rung f x) = x := by
  rw [width_sign] at h
  have hd := Nat.div_add_mod x f.signWeight
  have hp := sign_pos f
  unfold Format.word neg rung
  have hq : x / f.signWeight < 2 := (Nat.div_lt_iff_lt_mul hp).2 (by omega)
  generalize x / f.signWeight = q at *
  rcases (show q = 0 ∨ q = 1 by omega) with e | e <;> subst e <;> simp <;> omega
theorem neg_word (f : Format) (s : Bool) {r : Nat} (h : r < f.signWeight) : neg f (f.word s r) = s := by
  have hp := sign_pos f
  unfold Format.word neg
  cases s
  · simp [Nat.div_eq_of_lt h]
  · simp only [if_true]
    rw [Nat.add_div_left _ hp, Nat.div_eq_of_lt h]; rfl
theorem rung_word (f : Format) (s : Bool) {r : Nat} (h : r < f.signWeight) : rung f (f.word s r) = r := by
  unfold Format.word rung
  cases s
  · simp [Nat.mod_eq_of_lt h]
  · simp [Nat.mod_eq_of_lt h]

structure Good (f : Format) : Prop where
  eb : 3 ≤ f.exponentBits
  fb : 1 ≤ f.fractionBits
  small : f.fractionBits ≤ 2 ^ (f.exponentBits - 1)
theorem good_single : Good single := ⟨by decide, by decide, by decide⟩
theorem good_double : Good double := ⟨by decide, by decide, by decide⟩
theorem Good.four {f : Format} (g : Good f) : 4 ≤ 2 ^ f.exponentBits := Nat.pow_le_pow_right (n := 2) (by decide) (Nat.le_of_succ_le g.eb)
theorem Good.binade_lt_inf {f : Format} (g : Good f) : 3 * f.binade ≤ f.infRung := by
  have := g.four
  unfold Format.infRung
  exact Nat.mul_le_mul_right _ (by omega)

/-- A word that is a number has a magnitude and a place. -/
theorem parts_of {f : Format} (g : Good f) {r : Nat} (h : r < f.infRung) : ∃ m : Nat, ∃ k : Nat, m < 2 ^ (f.fractionBits + 1) ∧ k + 3 ≤ 2 ^ f.exponentBits ∧ mval f r = m * 2 ^ k ∧
    ∀ x : Nat, rung f x = r → f.read x = .number (neg f x) m (f.leastPlace + k) := by
  have hB := binade_pos f
  have hlt := binade_lt f
  have h4 := g.four
  by_cases c : r < f.binade
  · refine ⟨r, 0, by omega, by omega, by unfold mval; rw [if_pos c]; simp, fun x hx => ?_⟩
    unfold Format.read
    unfold rung at hx
    simp only [hx, if_pos c]
    unfold neg
    simp
  · refine ⟨f.binade + r % f.binade, r / f.binade - 1, ?_, ?_, ?_, fun x hx => ?_⟩
    · have := Nat.mod_lt r hB
      have e : 2 ^ (f.fractionBits + 1) = 2 * f.binade := by rw [Nat.pow_succ, Nat.mul_comm]; rfl
      omega
    · have h2 : r / f.binade < 2 ^ f.exponentBits - 1 := (Nat.div_lt_iff_lt_mul hB).2 h
      have h1 : 1 ≤ r / f.binade := (Nat.le_div_iff_mul_le hB).2 (by omega)
      generalize r / f.binade = q at *
      generalize 2 ^ f.exponentBits = e at *
      omega
    · unfold mval; rw [if_neg c]
    · unfold Format.read
      unfold rung at hx
      simp only [hx, if_neg c, if_pos h]
      rfl
theorem read_inf {f : Format} (g : Good f) {x : Nat} (h : rung f x = f.infRung) : f.read x = .infinity (neg f x) := by
  have hB := binade_pos f
  have := g.binade_lt_inf
  unfold Format.read
  unfold rung at h
  simp only [h]
  rw [if_neg (by omega), if_neg (by omega), if_pos trivial]
  rfl
theorem read_nan {f : Format} (g : Good f) {x : Nat} (h : f.infRung < rung f x) : f.read x = .nan (neg f x) (rung f x - f.infRung) := by
  have hB := binade_pos f
  have := g.binade_lt_inf
  unfold Format.read
  unfold rung at *
  simp only
  rw [if_neg (by omega), if_neg (by omega), if_neg (by omega)]
  rfl

theorem rung_le_inf (f : Format) (m : Nat) (p : Int) : rungOf f m p ≤ f.infRung := by
  unfold rungOf
  split
  · exact Nat.zero_le _
  · exact Nat.min_le_right ..

theorem write_number (f : Format) (s : Bool) (m : Nat) (p : Int) : f.write (.number s m p) = f.word s (rungOf f m p) := nearest_eq f s m p
theorem write_inf (f : Format) (s : Bool) : f.write (.infinity s) = f.word s f.infRung := rfl

/-! the order -/

theorem cmp_congr {a b c d : Int} (h1 : a < b ↔ c < d) (h2 : a = b ↔ c = d) : compare a b = compare c d := by
  show compareOfLessAndEq a b = compareOfLessAndEq c d
  unfold compareOfLessAndEq
  simp only [h1, h2]

theorem signed_eq (s : Bool) (m u : Nat) : signed s m u = sgn s (m * 2 ^ u) := by
  unfold signed sgn
  simp only [Nat.shiftLeft_eq]

theorem sgn_mul (s : Bool) (a K : Nat) : sgn s (a * K) = sgn s a * K := by
  unfold sgn
  cases s <;> simp [Int.neg_mul]

theorem cmp_of_lt {a b : Int} (h : a < b) : compare a b = .lt := by
  show compareOfLessAndEq a b = _
  unfold compareOfLessAndEq
  rw [if_pos h]
theorem cmp_of_gt {a b : Int} (h : b < a) : compare a b = .gt := by
  show compareOfLessAndEq a b = _
  unfold compareOfLessAndEq
  rw [if_neg (by omega), if_neg (by omega)]
theorem cmp_of_eq {a b : Int} (h : a = b) : compare a b = .eq := by
  show compareOfLessAndEq a b = _
  unfold compareOfLessAndEq
  rw [if_neg (by omega), if_pos h]

/-- What rises with the rungs orders them. -/
theorem cmp_rises {s t : Bool} {r q : Nat} {P : Nat → Nat} (h1 : P r < P q ↔ r < q) (h2 : P q < P r ↔ q < r) (h3 : P r = 0 ↔ r = 0) (h4 : P q = 0 ↔ q = 0) :
    compare (sgn s (P r)) (sgn t (P q)) = compare (sgn s r) (sgn t q) := by
  apply cmp_congr <;> unfold sgn <;> cases s <;> cases t <;> simp <;> omega

def place (f : Format) (x : Nat) : Int := sgn (neg f x) (rung f x)

theorem order_place {f : Format} (g : Good f) {x y : Nat} (hx : rung f x ≤ f.infRung) (hy : rung f y ≤ f.infRung) : f.order x y = some (compare (place f x) (place f y)) := by
  have hmono : ∀ {r q : Nat}, mval f r < mval f q ↔ r < q := mval_lt_iff f
  have hz : ∀ {r : Nat}, mval f r = 0 ↔ r = 0 := fun {r} => ⟨fun h => mval_inj f (h.trans (mval_zero f).symm), fun h => by rw [h, mval_zero]⟩
  have h4 := g.binade_lt_inf
  have hB := binade_pos f
  unfold Format.order
  rcases Nat.lt_or_ge (rung f x) f.infRung with cx | cx
  · obtain ⟨m, k, _, _, ex, rx⟩ := parts_of g cx
    rw [rx x rfl]
    rcases Nat.lt_or_ge (rung f y) f.infRung with cy | cy
    · obtain ⟨n, l, _, _, ey, ry⟩ := parts_of g cy
      rw [ry y rfl]
      simp only [Datum.order, signed_eq]
      congr 1
      unfold place
      rw [← cmp_rises (r := rung f x) (q := rung f y) (P := mval f) hmono hmono hz hz, ex, ey]
      have e1 : m * 2 ^ k = m * 2 ^ (f.leastPlace + k - min (f.leastPlace + k) (f.leastPlace + l)).toNat * 2 ^ (min k l) := by
        rw [Nat.mul_assoc, ← Nat.pow_add]; congr 2; omega
      have e2 : n * 2 ^ l = n * 2 ^ (f.leastPlace + l - min (f.leastPlace + k) (f.leastPlace + l)).toNat * 2 ^ (min k l) := by
        rw [Nat.mul_assoc, ← Nat.pow_add]; congr 2; omega
      rw [e1, e2]
      generalize m * 2 ^ (f.leastPlace + k - min (f.leastPlace + k) (f.leastPlace + l)).toNat = u
      generalize n * 2 ^ (f.leastPlace + l - min (f.leastPlace + k) (f.leastPlace + l)).toNat = v
      rw [sgn_mul, sgn_mul]
      have hp : (0 : Int) < ((2 ^ min k l : Nat) : Int) := by have := Nat.two_pow_pos (min k l); omega
      exact cmp_congr (Int.mul_lt_mul_right hp).symm (by rw [Int.mul_eq_mul_right_iff (by omega)])
    · have cy' : rung f y = f.infRung := by omega
      rw [read_inf g cy']
      simp only [Datum.order]
      congr 1
      unfold place
      rw [cy']
      clear rx
      cases neg f y
      · exact (cmp_of_lt (by unfold sgn; cases neg f x <;> simp <;> omega)).symm
      · exact (cmp_of_gt (by unfold sgn; cases neg f x <;> simp <;> omega)).symm
  · have cx' : rung f x = f.infRung := by omega
    rw [read_inf g cx']
    rcases Nat.lt_or_ge (rung f y) f.infRung with cy | cy
    · obtain ⟨n, l, _, _, ey, ry⟩ := parts_of g cy
      rw [ry y rfl]
      simp only [Datum.order]
      congr 1
      unfold place
      rw [cx']
      clear ry
      cases neg f x
      · exact (cmp_of_gt (by unfold sgn; cases neg f y <;> simp <;> omega)).symm
      · exact (cmp_of_lt (by unfold sgn; cases neg f y <;> simp <;> omega)).symm
    · have cy' : rung f y = f.infRung := by omega
      rw [read_inf g cy']
      simp only [Datum.order]
      congr 1
      unfold place
      rw [cx', cy']
      have hpos : 0 < f.infRung := by omega
      generalize f.infRung = i at *
      cases neg f y <;> cases neg f x
      · exact (cmp_of_eq rfl).symm
      · exact (cmp_of_lt (by unfold sgn; simp; omega)).symm
      · exact (cmp_of_gt (by unfold sgn; simp; omega)).symm
      · exact (cmp_of_eq rfl).symm

theorem order_nan_l {f : Format} (g : Good f) {x y : Nat} (hx : f.infRung < rung f x) : f.order x y = none := by
  unfold Format.order
  rw [read_nan g hx]
  unfold Datum.order
  rfl
theorem order_nan_r {f : Format} (g : Good f) {x y : Nat} (hy : f.infRung < rung f y) : f.order x y = none := by
  unfold Format.order
  rw [read_nan g hy]
  cases f.read x <;> rfl

/-! writing what was read -/

theorem write_read {f : Format} (g : Good f) {x : Nat} (h : x < 2 ^ f.width) (hx : rung f x ≤ f.infRung) : f.write (f.read x) = x := by
  rcases Nat.lt_or_ge (rung f x) f.infRung with c | c
  · obtain ⟨m, k, _, _, e, r⟩ := parts_of g c
    rw [r x rfl, write_number]
    have : rungOf f m (f.leastPlace + k) = rung f x := by
      rw [← rung_scale, ← e, rung_mval f hx]
    rw [this, word_parts f h]
  · have e : rung f x = f.infRung := by omega
    rw [read_inf g e, write_inf, ← e, word_parts f h]

/-! from single to double and back -/

theorem lp_single : single.leastPlace = -149 := by decide
theorem lp_double : double.leastPlace = -1074 := by decide
theorem inf_single : single.infRung = 2139095040 := by decide
theorem inf_double : double.infRung = 9218868437227405312 := by decide
theorem sw_single : single.signWeight = 2147483648 := by decide
theorem sw_double : double.signWeight = 9223372036854775808 := by decide
theorem binade_single : single.binade = 8388608 := by decide
theorem binade_double : double.binade = 4503599627370496 := by decide

def gap : Nat := 925
theorem gap_is : gap = 925 := rfl

def prom (r : Nat) : Nat := if r < single.infRung then rungOf double (mval single r) single.leastPlace else double.infRung
def dem (r : Nat) : Nat := if r < double.infRung then rungOf single (mval double r) double.leastPlace else single.infRung

theorem prom_worth {r : Nat} (h : r < single.infRung) : prom r < double.infRung ∧ mval double (prom r) = mval single r * 2 ^ gap := by
  obtain ⟨m, k, hm, hk, e, _⟩ := parts_of good_single h
  unfold prom
  rw [if_pos h, e, rung_scale]
  have hl : m.log2 < 24 := by
    by_cases h0 : m = 0
    · subst h0; decide
    · exact (Nat.log2_lt h0).2 hm
  have hk' : k + 3 ≤ 256 := hk
  have := rung_exact double (m := m) (p := single.leastPlace + k) (Nat.lt_of_lt_of_le hm (by decide)) (by rw [lp_single, lp_double]; omega) (by
    rw [lp_single, lp_double]
    show (-149 + (k : Int) + m.log2 - 52 - -1074 + 3 : Int) ≤ 2048
    omega) (by decide)
  refine ⟨this.1, ?_⟩
  rw [this.2, Nat.mul_assoc, ← Nat.pow_add, lp_single, lp_double]
  congr 2
  rw [gap_is]
  omega
theorem prom_inf : prom single.infRung = double.infRung := by unfold prom; rw [if_neg (Nat.lt_irrefl _)]
theorem prom_zero : prom 0 = 0 := by
  unfold prom
  rw [if_pos (by decide), mval_zero]
  rfl
theorem prom_le {r : Nat} (h : r ≤ single.infRung) : prom r ≤ double.infRung := by
  rcases Nat.lt_or_ge r single.infRung with c | c
  · exact Nat.le_of_lt (prom_worth c).1
  · unfold prom; rw [if_neg (by omega)]; exact Nat.le_refl _
theorem prom_lt {r s : Nat} (h : r < s) (hs : s ≤ single.infRung) : prom r < prom s := by
  have hr : r < single.infRung := by omega
  obtain ⟨a, b⟩ := prom_worth hr
  rcases Nat.lt_or_ge s single.infRung with c | c
  · obtain ⟨a', b'⟩ := prom_worth c
    rw [← mval_lt_iff double, b, b']
    exact Nat.mul_lt_mul_of_pos_right (mval_lt _ h) (Nat.two_pow_pos _)
  · rw [show s = single.infRung by omega, prom_inf]
    exact a
theorem prom_lt_iff {r s : Nat} (hr : r ≤ single.infRung) (hs : s ≤ single.infRung) : prom r < prom s ↔ r < s := by
  refine ⟨fun h => ?_, fun h => prom_lt h hs⟩
  rcases Nat.lt_trichotomy r s with c | c | c
  · exact c
  · subst c; omega
  · have := prom_lt c hr; omega
theorem prom_zero_iff {r : Nat} (hr : r ≤ single.infRung) : prom r = 0 ↔ r = 0 := by
  refine ⟨fun h => ?_, fun h => by rw [h, prom_zero]⟩
  rcases Nat.eq_zero_or_pos r with c | c
  · exact c
  · have := prom_lt c hr
    rw [prom_zero] at this
    omega
theorem dem_prom {r : Nat} (h : r ≤ single.infRung) : dem (prom r) = r := by
  rcases Nat.lt_or_ge r single.infRung with c | c
  · obtain ⟨a, b⟩ := prom_worth c
    unfold dem
    rw [if_pos a, b, rung_scale]
    have : double.leastPlace + gap = single.leastPlace := by decide
    rw [this, rung_mval _ h]
  · rw [show r = single.infRung by omega, prom_inf]
    unfold dem
    rw [if_neg (Nat.lt_irrefl _)]
theorem dem_le (r : Nat) : dem r ≤ single.infRung := by
  unfold dem
  split
  · exact rung_le_inf ..
  · exact Nat.le_refl _
theorem dem_mono {r s : Nat} (h : r ≤ s) : dem r ≤ dem s := by
  unfold dem
  split
  · split
    · refine rung_mono_at _ _ ?_
      rcases Nat.lt_or_ge r s with c | c
      · exact Nat.le_of_lt (mval_lt _ c)
      · rw [show r = s by omega]; exact Nat.le_refl _
    · exact rung_le_inf ..
  · rw [if_neg (by omega)]
    exact Nat.le_refl _

/-- What the conversion of single to double gives. -/
theorem promote {x : Nat} (h : rung single x ≤ single.infRung) : double.write (single.read x) = double.word (neg single x) (prom (rung single x)) := by
  rcases Nat.lt_or_ge (rung single x) single.infRung with c | c
  · obtain ⟨m, k, _, _, e, r⟩ := parts_of good_single c
    rw [r x rfl, write_number]
    unfold prom
    rw [if_pos c, e, rung_scale]
  · have e : rung single x = single.infRung := by omega
    rw [read_inf good_single e, write_inf, e, prom_inf]
/-- What the conversion of double to single gives. -/
theorem demote {x : Nat} (h : rung double x ≤ double.infRung) : single.write (double.read x) = single.word (neg double x) (dem (rung double x)) := by
  rcases Nat.lt_or_ge (rung double x) double.infRung with c | c
  · obtain ⟨m, k, _, _, e, r⟩ := parts_of good_double c
    rw [r x rfl, write_number]
    unfold dem
    rw [if_pos c, e, rung_scale]
  · have e : rung double x = double.infRung := by omega
    rw [read_inf good_double e, write_inf, e]
    unfold dem
    rw [if_neg (Nat.lt_irrefl _)]

theorem inf_lt_sw (f : Format) : f.infRung < f.signWeight := f.infRung_lt

/-- The order of what was made double is the order of the singles. -/
theorem order_prom {x y : Nat} (hx : rung single x ≤ single.infRung) (hy : rung single y ≤ single.infRung) :
    double.order (double.word (neg single x) (prom (rung single x))) (double.word (neg single y) (prom (rung single y))) = some (compare (place single x) (place single y)) := by
  have hlt := inf_lt_sw double
  have h1 := prom_le hx
  have h2 := prom_le hy
  rw [order_place good_double (by rw [rung_word _ _ (by omega)]; exact h1) (by rw [rung_word _ _ (by omega)]; exact h2)]
  unfold place
  rw [rung_word _ _ (by omega), rung_word _ _ (by omega), neg_word _ _ (by omega), neg_word _ _ (by omega)]
  rw [cmp_rises (P := prom) (prom_lt_iff hx hy) (prom_lt_iff hy hx) (prom_zero_iff hx) (prom_zero_iff hy)]
end Go.Proofs.YtfahogbiekmdfabDoor.Flo
