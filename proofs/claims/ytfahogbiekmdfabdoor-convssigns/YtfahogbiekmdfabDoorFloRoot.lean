/-
  Square roots, on rungs. No program is named here.
-/
import Derived.Test.YtfahogbiekmdfabDoorFloWhole
namespace Go.Proofs.YtfahogbiekmdfabDoor.Flo
open Ieee
set_option linter.unusedVariables false

theorem rootFrom_is (n todo root : Nat) (h1 : root * root ≤ n) (h2 : n < (root + 2 ^ todo) * (root + 2 ^ todo)) :
    Datum.rootFrom n todo root * Datum.rootFrom n todo root ≤ n ∧ n < (Datum.rootFrom n todo root + 1) * (Datum.rootFrom n todo root + 1) := by
  induction todo generalizing root with
  | zero => exact ⟨h1, by simpa [Datum.rootFrom] using h2⟩
  | succ k ih =>
    unfold Datum.rootFrom
    simp only [Nat.shiftLeft_eq, Nat.one_mul]
    have e : root + 2 ^ (k + 1) = root + 2 ^ k + 2 ^ k := by rw [Nat.pow_succ]; omega
    split
    · rename_i c
      exact ih _ c (by rw [← e]; exact h2)
    · rename_i c
      exact ih _ h1 (by omega)

/-- The whole root. -/
def isq (n : Nat) : Nat := Datum.rootFrom n (n.log2 / 2 + 1) 0
theorem isq_is (n : Nat) : isq n * isq n ≤ n ∧ n < (isq n + 1) * (isq n + 1) := by
  refine rootFrom_is n _ 0 (by omega) ?_
  rw [Nat.zero_add, ← Nat.pow_add]
  exact Nat.lt_of_lt_of_le Nat.lt_log2_self (Nat.pow_le_pow_right (by decide) (by omega))
theorem isq_mono {a b : Nat} (h : a ≤ b) : isq a ≤ isq b := by
  rcases Nat.lt_or_ge (isq b) (isq a) with c | c
  · have := Nat.mul_le_mul c c
    have h1 := (isq_is a).1
    have h2 := (isq_is b).2
    simp only [Nat.succ_eq_add_one] at this
    omega
  · exact c
/-- The root and the digit that tells of a rest. -/
def stick (n : Nat) : Nat := 2 * isq n + (isq n * isq n != n).toNat
theorem stick_mono {a b : Nat} (h : a ≤ b) : stick a ≤ stick b := by
  have hm := isq_mono h
  unfold stick
  rcases Nat.lt_or_ge (isq a) (isq b) with c | c
  · have := Bool.toNat_le (isq a * isq a != a)
    omega
  · have e : isq a = isq b := by omega
    have h1 := (isq_is a).1
    rw [e] at h1 ⊢
    by_cases c2 : isq b * isq b = a
    · simp [c2]
    · have : isq b * isq b ≠ b := by omega
      have t1 : (isq b * isq b != b) = true := by simp [this]
      have := Bool.toNat_le (isq b * isq b != a)
      rw [t1]
      simp only [Bool.toNat_true]
      omega

/-- How many digits are put behind. -/
def extra (d m : Nat) (i : Int) : Nat := (2 * d - m.log2) + ((i - ((2 * d - m.log2 : Nat) : Int)) % 2).toNat
def rootM (d m : Nat) (i : Int) : Nat := stick (m * 2 ^ extra d m i)
def rootP (d m : Nat) (i : Int) : Int := (i - extra d m i) / 2 - 1

theorem root_number (d m : Nat) (i : Int) (h : m ≠ 0) : Datum.root d (.number false m i) = some (.number false (rootM d m i) (rootP d m i)) := by
  unfold Datum.root
  simp only [if_neg h]
  rw [if_neg (by decide)]
  simp only [Nat.shiftLeft_eq]
  rfl

theorem extra_even (d m : Nat) (i : Int) : (i - extra d m i) % 2 = 0 := by
  unfold extra
  omega

/-- The digits of a root. -/
theorem root_size {d m : Nat} {i : Int} (h0 : m ≠ 0) (hl : m.log2 ≤ 2 * d) : 2 ^ (2 * d) ≤ m * 2 ^ extra d m i ∧ m * 2 ^ extra d m i < 2 ^ (2 * d + 2) := by
  have h1 := Nat.log2_self_le h0
  have h2 := Nat.lt_log2_self (n := m)
  have hx : 2 * d - m.log2 ≤ extra d m i ∧ extra d m i ≤ 2 * d - m.log2 + 1 := by unfold extra; omega
  constructor
  · refine Nat.le_trans ?_ (Nat.mul_le_mul_right _ h1)
    rw [← Nat.pow_add]
    exact Nat.pow_le_pow_right (by decide) (by omega)
  · refine Nat.lt_of_lt_of_le (Nat.mul_lt_mul_of_pos_right h2 (Nat.two_pow_pos _)) ?_
    rw [← Nat.pow_add]
    exact Nat.pow_le_pow_right (by decide) (by omega)

theorem stick_size {d n : Nat} (h1 : 2 ^ (2 * d) ≤ n) (h2 : n < 2 ^ (2 * d + 2)) : 2 ^ (d + 1) ≤ stick n ∧ stick n < 2 ^ (d + 2) := by
  obtain ⟨a, b⟩ := isq_is n
  have e1 : 2 ^ (2 * d) = 2 ^ d * 2 ^ d := by rw [← Nat.pow_add]; congr 1; omega
  have e2 : 2 ^ (2 * d + 2) = 2 ^ (d + 1) * 2 ^ (d + 1) := by rw [← Nat.pow_add]; congr 1; omega
  have h3 : 2 ^ d ≤ isq n := by
    rcases Nat.lt_or_ge (isq n) (2 ^ d) with c | c
    · have := Nat.mul_le_mul c c
      simp only [Nat.succ_eq_add_one] at this
      omega
    · exact c
  have h4 : isq n < 2 ^ (d + 1) := by
    rcases Nat.lt_or_ge (isq n) (2 ^ (d + 1)) with c | c
    · exact c
    · have := Nat.mul_le_mul c c
      omega
  unfold stick
  have hb := Bool.toNat_le (isq n * isq n != n)
  have p1 : 2 ^ (d + 1) = 2 * 2 ^ d := by rw [Nat.pow_succ, Nat.mul_comm]
  have p2 : 2 ^ (d + 2) = 2 * 2 ^ (d + 1) := by rw [Nat.pow_succ 2 (d + 1), Nat.mul_comm]
  omega

/-- Roots rise. -/
theorem root_rises (f : Format) {d m n : Nat} {i j : Int} {a b : Nat} (hm0 : m ≠ 0) (hn0 : n ≠ 0) (hm : m.log2 ≤ 2 * d) (hn : n.log2 ≤ 2 * d) (hp : i - a = j - b) (h : m * 2 ^ a ≤ n * 2 ^ b) :
    rungOf f (rootM d m i) (rootP d m i) ≤ rungOf f (rootM d n j) (rootP d n j) := by
  obtain ⟨l1, u1⟩ := root_size (i := i) hm0 hm
  obtain ⟨l2, u2⟩ := root_size (i := j) hn0 hn
  have ev1 := extra_even d m i
  have ev2 := extra_even d n j
  unfold rootM rootP
  -- both, at one place
  have key : ∀ c : Nat, (c : Int) = a + extra d n j + extra d m i → m * 2 ^ extra d m i * 2 ^ (a + extra d n j) ≤ n * 2 ^ extra d n j * 2 ^ (b + extra d m i) := fun c hc => by
    have e1 : m * 2 ^ extra d m i * 2 ^ (a + extra d n j) = m * 2 ^ a * 2 ^ (extra d m i + extra d n j) := by
      rw [Nat.mul_assoc, Nat.mul_assoc, ← Nat.pow_add, ← Nat.pow_add]; congr 2; omega
    have e2 : n * 2 ^ extra d n j * 2 ^ (b + extra d m i) = n * 2 ^ b * 2 ^ (extra d m i + extra d n j) := by
      rw [Nat.mul_assoc, Nat.mul_assoc, ← Nat.pow_add, ← Nat.pow_add]; congr 2; omega
    rw [e1, e2]
    exact Nat.mul_le_mul_right _ h
  have key := key (a + extra d n j + extra d m i) (by omega)
  generalize extra d m i = x at *
  generalize extra d n j = y at *
  rcases Int.lt_trichotomy ((i - x) / 2) ((j - y) / 2) with c | c | c
  · -- the lesser one is below a power of two that the greater one reaches
    obtain ⟨_, s1⟩ := stick_size l1 u1
    obtain ⟨s2, _⟩ := stick_size l2 u2
    have hle : stick (m * 2 ^ x) * 2 ^ 0 ≤ stick (n * 2 ^ y) * 2 ^ (((j - y) / 2 - (i - x) / 2).toNat) := by
      have p2 : 2 ^ (d + 2) = 2 ^ (d + 1) * 2 ^ 1 := by rw [← Nat.pow_add]
      have : 2 ^ (d + 1) * 2 ^ 1 ≤ stick (n * 2 ^ y) * 2 ^ (((j - y) / 2 - (i - x) / 2).toNat) :=
        Nat.mul_le_mul s2 (Nat.pow_le_pow_right (by decide) (by omega))
      omega
    exact rung_mono f (by omega) hle
  · have hxy : i - x = j - y := by omega
    have h1 : m * 2 ^ x ≤ n * 2 ^ y := by
      have e : a + y = b + x := by omega
      rw [e] at key
      exact Nat.le_of_mul_le_mul_right key (Nat.two_pow_pos _)
    rw [c]
    exact rung_mono_at f _ (stick_mono h1)
  · exfalso
    have h1 : n * 2 ^ y * 2 ^ (b + x) < 2 ^ (2 * d + 2) * 2 ^ (b + x) := Nat.mul_lt_mul_of_pos_right u2 (Nat.two_pow_pos _)
    have h2 : 2 ^ (2 * d) * 2 ^ (a + y) ≤ m * 2 ^ x * 2 ^ (a + y) := Nat.mul_le_mul_right _ l1
    have h3 : 2 ^ (2 * d + 2) * 2 ^ (b + x) ≤ 2 ^ (2 * d) * 2 ^ (a + y) := by
      rw [← Nat.pow_add, ← Nat.pow_add]
      exact Nat.pow_le_pow_right (by decide) (by omega)
    omega

/-- The rung of the root of a rung that is above 0. -/
def sqR (r : Nat) : Nat :=
  if r = 0 then 0 else if r < double.infRung then
    (match double.read r with | .number _ m i => rungOf double (rootM 54 m i) (rootP 54 m i) | _ => 0) else double.infRung

theorem rung_self {f : Format} {r : Nat} (h : r < f.signWeight) : rung f r = r := Nat.mod_eq_of_lt h
theorem neg_self {f : Format} {r : Nat} (h : r < f.signWeight) : neg f r = false := by unfold neg; rw [Nat.div_eq_of_lt h]; rfl

theorem sqR_at {r m k : Nat} (h0 : r ≠ 0) (h : r < double.infRung) (hr : ∀ x : Nat, rung double x = r → double.read x = .number (neg double x) m (double.leastPlace + k)) :
    sqR r = rungOf double (rootM 54 m (double.leastPlace + k)) (rootP 54 m (double.leastPlace + k)) := by
  have hlt := inf_lt_sw double
  unfold sqR
  rw [if_neg h0, if_pos h, hr r (rung_self (by omega))]

theorem sqR_le (r : Nat) : sqR r ≤ double.infRung := by
  unfold sqR
  split
  · exact Nat.zero_le _
  · split
    · split
      · exact rung_le_inf ..
      · exact Nat.zero_le _
    · exact Nat.le_refl _

theorem mag_facts {r m k : Nat} (h0 : r ≠ 0) (e : mval double r = m * 2 ^ k) (hm : m < 2 ^ (double.fractionBits + 1)) : m ≠ 0 ∧ m.log2 ≤ 2 * 54 := by
  have h : m ≠ 0 := by
    intro c
    rw [c, Nat.zero_mul] at e
    exact h0 (mval_inj double (e.trans (mval_zero double).symm))
  refine ⟨h, ?_⟩
  have : m.log2 < 53 := (Nat.log2_lt h).2 hm
  omega

theorem sqR_mono {r s : Nat} (h : r ≤ s) : sqR r ≤ sqR s := by
  by_cases h0 : r = 0
  · rw [h0]; unfold sqR; rw [if_pos rfl]; exact Nat.zero_le _
  · by_cases hs : s < double.infRung
    · obtain ⟨m, k, hm, _, e, hr⟩ := parts_of good_double (show r < double.infRung by omega)
      obtain ⟨n, l, hn, _, e', hr'⟩ := parts_of good_double hs
      rw [sqR_at h0 (by omega) hr, sqR_at (by omega) hs hr']
      obtain ⟨m0, ml⟩ := mag_facts h0 e hm
      obtain ⟨n0, nl⟩ := mag_facts (show s ≠ 0 by omega) e' hn
      refine root_rises double m0 n0 ml nl (a := k) (b := l) (by omega) ?_
      rw [← e, ← e']
      rcases Nat.lt_or_ge r s with c | c
      · exact Nat.le_of_lt (mval_lt _ c)
      · rw [show r = s by omega]; exact Nat.le_refl _
    · have : sqR s = double.infRung := by
        have := good_double.binade_lt_inf
        have hB := binade_pos double
        unfold sqR; rw [if_neg (by omega), if_neg hs]
      rw [this]
      exact sqR_le r

theorem sqR_zero : sqR 0 = 0 := by unfold sqR; rw [if_pos rfl]
theorem rungOf_zero (f : Format) (p : Int) : rungOf f 0 p = 0 := by unfold rungOf; rw [if_pos rfl]
/-- What the model's root answers. -/
theorem sqrt_word {x : Nat} (hx : x < 2 ^ 64) (h : rung double x ≤ double.infRung) :
    double.sqrt x = if neg double x = true ∧ rung double x ≠ 0 then none else some (double.word (neg double x) (sqR (rung double x))) := by
  unfold Format.sqrt
  rcases Nat.lt_or_ge (rung double x) double.infRung with c | c
  · obtain ⟨m, k, hm, _, e, hr⟩ := parts_of good_double c
    have hrx := hr x rfl
    rw [hrx]
    by_cases h0 : rung double x = 0
    · have m0 : m = 0 := by
        rw [h0, mval_zero] at e
        rcases Nat.mul_eq_zero.1 e.symm with z | z
        · exact z
        · have := Nat.two_pow_pos k; omega
      rw [if_neg (by rintro ⟨_, z⟩; exact z h0), m0, h0]
      simp only [Datum.root, if_pos, Option.map_some]
      rw [write_number, rungOf_zero, sqR_zero]
    · obtain ⟨m0, ml⟩ := mag_facts h0 e hm
      cases hn : neg double x
      · rw [if_neg (by simp)]
        show Option.map _ (Datum.root 54 _) = _
        rw [root_number _ _ _ m0, sqR_at h0 c hr]
        simp only [Option.map_some]
        rw [write_number]
      · rw [if_pos ⟨rfl, h0⟩]
        unfold Datum.root
        simp only [if_neg m0, if_pos, Option.map_none]
  · have ei : rung double x = double.infRung := by omega
    rw [read_inf good_double ei, ei]
    have h3 := good_double.binade_lt_inf
    have hB := binade_pos double
    have es : sqR double.infRung = double.infRung := by unfold sqR; rw [if_neg (by omega), if_neg (Nat.lt_irrefl _)]
    rw [es]
    cases hn : neg double x
    · rw [if_neg (by simp)]; rfl
    · rw [if_pos ⟨rfl, by omega⟩]; rfl

/-- The root of 32 bits, by way of 64. -/
def sqS (r : Nat) : Nat := dem (sqR (prom r))
theorem prom_mono {r s : Nat} (h : r ≤ s) (hs : s ≤ single.infRung) : prom r ≤ prom s := by
  rcases Nat.lt_or_ge r s with c | c
  · exact Nat.le_of_lt (prom_lt c hs)
  · rw [show r = s by omega]; exact Nat.le_refl _
theorem sqS_mono {r s : Nat} (h : r ≤ s) (hs : s ≤ single.infRung) : sqS r ≤ sqS s := dem_mono (sqR_mono (prom_mono h hs))
theorem sqS_le (r : Nat) : sqS r ≤ single.infRung := dem_le _
theorem great_root : dem (sqR (prom 2139095039)) = 1602224127 := by decide +kernel
theorem sqS_lt {r : Nat} (h : r < single.infRung) : sqS r < single.infRung := by
  have h1 : r ≤ 2139095039 := by have := inf_single; omega
  have h2 : sqS r ≤ sqS 2139095039 := sqS_mono h1 (by decide)
  have h3 : sqS 2139095039 = 1602224127 := great_root
  have := inf_single
  omega
theorem sqR_lt {r : Nat} (h : r < double.infRung) : sqR r < double.infRung := by
  have h1 : r ≤ 9218868437227405311 := by have := inf_double; omega
  have h2 : sqR r ≤ sqR 9218868437227405311 := sqR_mono h1
  have h3 : sqR 9218868437227405311 = 6913025428013711359 := by decide +kernel
  have := inf_double
  omega
end Go.Proofs.YtfahogbiekmdfabDoor.Flo
