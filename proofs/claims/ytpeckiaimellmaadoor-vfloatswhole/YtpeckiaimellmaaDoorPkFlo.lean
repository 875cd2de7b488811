/-
  FloMath, FloRead, FloWhole, FloRoot.
-/
import Derived.Laws.FloatBits
/-
  Plain mathematics of binary floating point, over the model's words: cutting, rounding to the nearest, rungs and what they are worth, the order. No program is named here.
-/
namespace Go.Proofs.YtpeckiaimellmaaDoor.Flo
open Ieee
set_option linter.unusedVariables false

/-! cut -/

def goes (way : Toward) (neg : Bool) (gap low rest : Nat) : Bool :=
  match way with
  | .even => decide (gap < 2 * rest) || (gap == 2 * rest && low % 2 == 1)
  | .down => neg && rest != 0
  | .up => !neg && rest != 0
  | .zero => false

def cutS (way : Toward) (neg : Bool) (n drop : Nat) : Nat :=
  n / 2 ^ drop + (goes way neg (2 ^ drop) (n / 2 ^ drop) (n % 2 ^ drop)).toNat

theorem cut_eq (way : Toward) (neg : Bool) (n drop : Nat) : way.cut neg n drop = cutS way neg n drop := by
  have h : way.cut neg n drop = cutS way neg n (min drop (n.log2 + 2)) := by
    unfold Toward.cut cutS goes
    simp only [Nat.shiftLeft_eq, Nat.one_mul]
    cases way <;> rfl
  rw [h]
  by_cases c : drop ≤ n.log2 + 2
  · rw [Nat.min_eq_left c]
  · rw [Nat.min_eq_right (by omega)]
    have h1 : n < 2 ^ (n.log2 + 1) := Nat.lt_log2_self
    have h2 : 2 ^ (n.log2 + 2) = 2 * 2 ^ (n.log2 + 1) := by rw [Nat.pow_succ 2 (n.log2 + 1), Nat.mul_comm]
    have h3 : 2 ^ (n.log2 + 2) ≤ 2 ^ drop := Nat.pow_le_pow_right (by decide) (by omega)
    unfold cutS
    rw [Nat.div_eq_of_lt (show n < 2 ^ (n.log2 + 2) by omega), Nat.div_eq_of_lt (show n < 2 ^ drop by omega), Nat.mod_eq_of_lt (show n < 2 ^ (n.log2 + 2) by omega), Nat.mod_eq_of_lt (show n < 2 ^ drop by omega)]
    congr 2
    unfold goes
    cases way <;> simp <;> omega

theorem cutS_scale (way : Toward) (neg : Bool) (n drop c : Nat) : cutS way neg (n * 2 ^ c) (drop + c) = cutS way neg n drop := by
  have hp := Nat.two_pow_pos c
  unfold cutS
  rw [Nat.pow_add, Nat.mul_div_mul_right _ _ hp, Nat.mul_mod_mul_right]
  congr 2
  unfold goes
  have e1 : (2 ^ drop * 2 ^ c < 2 * (n % 2 ^ drop * 2 ^ c)) ↔ (2 ^ drop < 2 * (n % 2 ^ drop)) := by
    rw [← Nat.mul_assoc]; exact Nat.mul_lt_mul_right hp
  have e2 : (2 ^ drop * 2 ^ c = 2 * (n % 2 ^ drop * 2 ^ c)) ↔ (2 ^ drop = 2 * (n % 2 ^ drop)) := by
    rw [← Nat.mul_assoc]; exact Nat.mul_left_inj (by omega)
  have e3 : (n % 2 ^ drop * 2 ^ c = 0) ↔ (n % 2 ^ drop = 0) := by
    rw [Nat.mul_eq_zero]; constructor
    · rintro (h | h) <;> omega
    · exact .inl
  cases way
  · simp only [Bool.beq_eq_decide_eq, e1, e2]
  · simp only [bne, Bool.beq_eq_decide_eq, e3]
  · simp only [bne, Bool.beq_eq_decide_eq, e3]
  · rfl

theorem cutS_mono (n m drop : Nat) (h : n ≤ m) : cutS .even false n drop ≤ cutS .even false m drop := by
  have hp := Nat.two_pow_pos drop
  unfold cutS
  have hd : n / 2 ^ drop ≤ m / 2 ^ drop := Nat.div_le_div_right h
  rcases Nat.lt_or_ge (n / 2 ^ drop) (m / 2 ^ drop) with c | c
  · have := Bool.toNat_le (goes .even false (2 ^ drop) (n / 2 ^ drop) (n % 2 ^ drop))
    omega
  · have e : n / 2 ^ drop = m / 2 ^ drop := by omega
    have hr : n % 2 ^ drop ≤ m % 2 ^ drop := by
      have h1 := Nat.div_add_mod n (2 ^ drop)
      have h2 := Nat.div_add_mod m (2 ^ drop)
      rw [e] at h1
      omega
    rw [e]
    have : (goes .even false (2 ^ drop) (m / 2 ^ drop) (n % 2 ^ drop)).toNat ≤ (goes .even false (2 ^ drop) (m / 2 ^ drop) (m % 2 ^ drop)).toNat := by
      cases c1 : goes .even false (2 ^ drop) (m / 2 ^ drop) (n % 2 ^ drop)
      · simp
      · have : goes .even false (2 ^ drop) (m / 2 ^ drop) (m % 2 ^ drop) = true := by
          simp only [goes, Bool.or_eq_true, decide_eq_true_eq, Bool.and_eq_true, beq_iff_eq] at c1 ⊢
          omega
        rw [this]
        exact Nat.le_refl _
    omega

theorem cutS_neg (a b : Bool) (n drop : Nat) : cutS .even a n drop = cutS .even b n drop := rfl
theorem cutS_zero (way : Toward) (neg : Bool) (n : Nat) : cutS way neg n 0 = n := by
  unfold cutS goes
  simp only [Nat.pow_zero, Nat.div_one, Nat.mod_one]
  cases way <;> simp

/-! to the nearest -/

/-- The rung that is nearest to 'm * 2 ^ p'. -/
def rungOf (f : Format) (m : Nat) (p : Int) : Nat :=
  if m = 0 then 0 else
  let last := max (p + m.log2 - f.fractionBits) f.leastPlace
  min ((last - f.leastPlace).toNat * f.binade + cutS .even false (m * 2 ^ (p - last).toNat) (last - p).toNat) f.infRung

theorem nearest_eq (f : Format) (s : Bool) (m : Nat) (p : Int) : f.nearest s m p = f.word s (rungOf f m p) := by
  unfold Format.nearest rungOf
  split
  · rfl
  · simp only [cut_eq, Nat.shiftLeft_eq]
    rfl

theorem log2_scale (m k : Nat) (h : m ≠ 0) : (m * 2 ^ k).log2 = m.log2 + k := by
  induction k with
  | zero => simp
  | succ k ih =>
    rw [Nat.pow_succ, ← Nat.mul_assoc, Nat.mul_comm _ 2, Nat.log2_two_mul, ih]
    · rfl
    · have := Nat.two_pow_pos k
      intro e
      rw [Nat.mul_eq_zero] at e
      omega

theorem rung_scale (f : Format) (m k : Nat) (p : Int) : rungOf f (m * 2 ^ k) p = rungOf f m (p + k) := by
  by_cases h0 : m = 0
  · subst h0; simp [rungOf]
  have hk := Nat.two_pow_pos k
  have h1 : m * 2 ^ k ≠ 0 := by
    intro e; rw [Nat.mul_eq_zero] at e; omega
  unfold rungOf
  rw [if_neg h0, if_neg h1, log2_scale m k h0]
  have el : p + ((m.log2 + k : Nat) : Int) - f.fractionBits = p + k + m.log2 - f.fractionBits := by omega
  rw [el]
  simp only
  generalize max (p + k + m.log2 - f.fractionBits) f.leastPlace = last
  congr 2
  rcases Int.lt_or_le (p + k) last with c | c
  · rw [show (p - last).toNat = 0 by omega, show (p + k - last).toNat = 0 by omega, show (last - p).toNat = (last - (p + k)).toNat + k by omega]
    simp only [Nat.pow_zero, Nat.mul_one]
    exact cutS_scale _ _ _ _ _
  · rw [show (last - (p + k)).toNat = 0 by omega, cutS_zero]
    have e : m * 2 ^ k * 2 ^ (p - last).toNat = m * 2 ^ (p + k - last).toNat * 2 ^ (last - p).toNat := by
      rw [Nat.mul_assoc, Nat.mul_assoc, ← Nat.pow_add, ← Nat.pow_add]
      congr 2
      omega
    rw [e]
    have := cutS_scale .even false (m * 2 ^ (p + k - last).toNat) 0 (last - p).toNat
    rw [Nat.zero_add, cutS_zero] at this
    exact this

/-- The same number has the same rung. -/
theorem rung_same (f : Format) {m n : Nat} {p q : Int} {a b : Nat} (hp : p - a = q - b) (h : m * 2 ^ a = n * 2 ^ b) : rungOf f m p = rungOf f n q := by
  have e1 := rung_scale f m a (p - a)
  have e2 := rung_scale f n b (q - b)
  rw [show p - (a : Int) + a = p by omega] at e1
  rw [show q - (b : Int) + b = q by omega] at e2
  rw [← e1, ← e2, h, hp]

theorem log2_mono {m n : Nat} (h : m ≤ n) : m.log2 ≤ n.log2 := by
  by_cases h0 : m = 0
  · subst h0; simp
  · have : n ≠ 0 := by omega
    rw [Nat.le_log2 this]
    exact Nat.le_trans (Nat.log2_self_le h0) h

theorem rung_mono_at (f : Format) {m n : Nat} (p : Int) (h : m ≤ n) : rungOf f m p ≤ rungOf f n p := by
  by_cases h0 : m = 0
  · subst h0; simp [rungOf]
  have h1 : n ≠ 0 := by omega
  have hl := log2_mono h
  unfold rungOf
  rw [if_neg h0, if_neg h1]
  simp only
  have hle : max (p + m.log2 - f.fractionBits) f.leastPlace ≤ max (p + n.log2 - f.fractionBits) f.leastPlace := by omega
  rcases Int.lt_or_le (max (p + m.log2 - f.fractionBits) f.leastPlace) (max (p + n.log2 - f.fractionBits) f.leastPlace) with c | c
  · -- the lesser one keeps at most two binades' rungs, the greater one at least one
    have k1 : cutS .even false (m * 2 ^ (p - max (p + m.log2 - f.fractionBits) f.leastPlace).toNat) (max (p + m.log2 - f.fractionBits) f.leastPlace - p).toNat ≤ 2 * f.binade := by
      generalize hL : max (p + m.log2 - f.fractionBits) f.leastPlace = L at *
      have hm := Nat.lt_log2_self (n := m)
      have b1 : m * 2 ^ (p - L).toNat ≤ f.binade * 2 * 2 ^ (L - p).toNat := by
        unfold Format.binade
        rw [← Nat.pow_succ, ← Nat.pow_add]
        refine Nat.le_trans (Nat.mul_le_mul_right _ (Nat.le_of_lt hm)) ?_
        rw [← Nat.pow_add]
        exact Nat.pow_le_pow_right (by decide) (by omega)
      have := cutS_mono _ _ (L - p).toNat b1
      have e := cutS_scale .even false (f.binade * 2) 0 (L - p).toNat
      rw [Nat.zero_add, cutS_zero] at e
      omega
    have k2 : f.binade ≤ cutS .even false (n * 2 ^ (p - max (p + n.log2 - f.fractionBits) f.leastPlace).toNat) (max (p + n.log2 - f.fractionBits) f.leastPlace - p).toNat := by
      have hL : max (p + n.log2 - f.fractionBits) f.leastPlace = p + n.log2 - f.fractionBits := by omega
      rw [hL]
      have hn := Nat.log2_self_le h1
      have b1 : f.binade * 2 ^ (p + n.log2 - f.fractionBits - p).toNat ≤ n * 2 ^ (p - (p + n.log2 - f.fractionBits)).toNat := by
        refine Nat.le_trans ?_ (Nat.mul_le_mul_right _ hn)
        unfold Format.binade
        rw [← Nat.pow_add, ← Nat.pow_add]
        exact Nat.pow_le_pow_right (by decide) (by omega)
      have := cutS_mono _ _ (p + n.log2 - f.fractionBits - p).toNat b1
      have e := cutS_scale .even false f.binade 0 (p + n.log2 - f.fractionBits - p).toNat
      rw [Nat.zero_add, cutS_zero] at e
      omega
    have hL1 : f.leastPlace ≤ max (p + m.log2 - f.fractionBits) f.leastPlace := by omega
    generalize max (p + m.log2 - f.fractionBits) f.leastPlace = L at *
    generalize max (p + n.log2 - f.fractionBits) f.leastPlace = L' at *
    have k3 : (L - f.leastPlace).toNat * f.binade + f.binade ≤ (L' - f.leastPlace).toNat * f.binade := by
      rw [← Nat.succ_mul]
      exact Nat.mul_le_mul_right _ (by omega)
    omega
  · have e : max (p + n.log2 - f.fractionBits) f.leastPlace = max (p + m.log2 - f.fractionBits) f.leastPlace := by omega
    rw [e]
    generalize max (p + m.log2 - f.fractionBits) f.leastPlace = L at *
    have := cutS_mono _ _ (L - p).toNat (Nat.mul_le_mul_right (2 ^ (p - L).toNat) h)
    omega

theorem rung_mono (f : Format) {m n : Nat} {p q : Int} {a b : Nat} (hp : p - a = q - b) (h : m * 2 ^ a ≤ n * 2 ^ b) : rungOf f m p ≤ rungOf f n q := by
  have e1 := rung_scale f m a (p - a)
  have e2 := rung_scale f n b (q - b)
  rw [show p - (a : Int) + a = p by omega] at e1
  rw [show q - (b : Int) + b = q by omega] at e2
  rw [← e1, ← e2, hp]
  exact rung_mono_at f _ h

/-! what a rung is worth, in units of the least place -/

def mval (f : Format) (r : Nat) : Nat := if r < f.binade then r else (f.binade + r % f.binade) * 2 ^ (r / f.binade - 1)

theorem binade_pos (f : Format) : 0 < f.binade := Nat.two_pow_pos _

theorem mval_next (f : Format) (r : Nat) : mval f r < mval f (r + 1) := by
  have hB := binade_pos f
  have hd := Nat.div_add_mod r f.binade
  have hm := Nat.mod_lt r hB
  unfold mval
  by_cases c : r + 1 < f.binade
  · rw [if_pos (by omega), if_pos c]; omega
  · rw [if_neg c]
    by_cases c' : r < f.binade
    · have e : r + 1 = f.binade := by omega
      rw [if_pos c', e, Nat.mod_self, Nat.div_self hB]
      simp; omega
    · rw [if_neg c']
      generalize hq : r / f.binade = q at *
      generalize ht : r % f.binade = t at *
      have hq1 : 1 ≤ q := by rw [← hq]; exact (Nat.le_div_iff_mul_le hB).2 (by omega)
      have hp := Nat.two_pow_pos (q - 1)
      by_cases c2 : t + 1 < f.binade
      · have e : r + 1 = t + 1 + f.binade * q := by omega
        rw [e, Nat.add_mul_mod_self_left, Nat.mod_eq_of_lt c2, Nat.add_mul_div_left _ _ hB, Nat.div_eq_of_lt c2, Nat.zero_add]
        exact Nat.mul_lt_mul_of_pos_right (by omega) hp
      · have e : r + 1 = f.binade * (q + 1) := by rw [Nat.mul_succ]; omega
        rw [e, Nat.mul_mod_right, Nat.mul_div_cancel_left _ hB]
        have e2 : 2 ^ (q + 1 - 1) = 2 * 2 ^ (q - 1) := by
          rw [show q + 1 - 1 = (q - 1) + 1 by omega, Nat.pow_succ, Nat.mul_comm]
        rw [e2, Nat.add_zero, ← Nat.mul_assoc]
        exact Nat.mul_lt_mul_of_pos_right (by omega) hp

theorem mval_lt (f : Format) {r s : Nat} (h : r < s) : mval f r < mval f s := by
  induction s with
  | zero => omega
  | succ s ih =>
    rcases Nat.lt_or_ge r s with c | c
    · exact Nat.lt_trans (ih c) (mval_next f s)
    · rw [show r = s by omega]; exact mval_next f s
theorem mval_lt_iff (f : Format) {r s : Nat} : mval f r < mval f s ↔ r < s := by
  refine ⟨fun h => ?_, mval_lt f⟩
  rcases Nat.lt_or_ge r s with c | c
  · exact c
  · rcases Nat.lt_or_ge s r with d | d
    · have := mval_lt f d; omega
    · rw [show r = s by omega] at h; omega
theorem mval_inj (f : Format) {r s : Nat} (h : mval f r = mval f s) : r = s := by
  rcases Nat.lt_trichotomy r s with c | c | c
  · have := mval_lt f c; omega
  · exact c
  · have := mval_lt f c; omega
theorem mval_zero (f : Format) : mval f 0 = 0 := by unfold mval; rw [if_pos (binade_pos f)]

theorem binade_lt (f : Format) : f.binade < 2 ^ (f.fractionBits + 1) := Nat.pow_lt_pow_right (by decide) (by omega)

theorem log2_of {m k : Nat} (h1 : 2 ^ k ≤ m) (h2 : m < 2 ^ (k + 1)) : m.log2 = k := by
  have h0 : m ≠ 0 := by have := Nat.two_pow_pos k; omega
  exact (Nat.log2_eq_iff h0).2 ⟨h1, h2⟩

/-- A rung's own worth is nearest to it. -/
theorem rung_mval (f : Format) {r : Nat} (h : r ≤ f.infRung) : rungOf f (mval f r) f.leastPlace = r := by
  have hB := binade_pos f
  unfold mval
  split
  · rename_i c
    unfold rungOf
    split
    · omega
    · rename_i h0
      have hl : r.log2 < f.fractionBits := (Nat.log2_lt h0).2 c
      have e : max (f.leastPlace + r.log2 - f.fractionBits) f.leastPlace = f.leastPlace := by omega
      simp only [e, Int.sub_self, Int.toNat_zero, Nat.pow_zero, Nat.mul_one, cutS_zero, Nat.zero_mul, Nat.zero_add]
      omega
  · rename_i c
    have hd := Nat.div_add_mod r f.binade
    have hm := Nat.mod_lt r hB
    rw [rung_scale]
    generalize hq : r / f.binade = q at *
    generalize ht : r % f.binade = t at *
    have hq1 : 1 ≤ q := by rw [← hq]; exact (Nat.le_div_iff_mul_le hB).2 (by omega)
    have hl : (f.binade + t).log2 = f.fractionBits := log2_of (by unfold Format.binade; omega) (by rw [Nat.pow_succ]; unfold Format.binade at hm ⊢; omega)
    unfold rungOf
    rw [if_neg (by omega), hl]
    have e : max (f.leastPlace + ((q - 1 : Nat) : Int) + f.fractionBits - f.fractionBits) f.leastPlace = f.leastPlace + ((q - 1 : Nat) : Int) := by omega
    simp only [e, Int.sub_self, Int.toNat_zero, Nat.pow_zero, Nat.mul_one, cutS_zero]
    rw [show (f.leastPlace + ((q - 1 : Nat) : Int) - f.leastPlace).toNat = q - 1 by omega]
    have e2 : (q - 1) * f.binade + f.binade = f.binade * q := by
      rw [← Nat.succ_mul, show (q - 1).succ = q by omega, Nat.mul_comm]
    omega

/-- A number of few digits within the bounds is a rung's worth. -/
theorem rung_exact (f : Format) {m : Nat} {p : Int} (hm : m < 2 ^ (f.fractionBits + 1)) (hp : f.leastPlace ≤ p) (hb : p + m.log2 - f.fractionBits - f.leastPlace + 3 ≤ 2 ^ f.exponentBits) (he : 2 ≤ f.exponentBits) :
    rungOf f m p < f.infRung ∧ mval f (rungOf f m p) = m * 2 ^ (p - f.leastPlace).toNat := by
  have hB := binade_pos f
  have hE : (4 : Nat) ≤ 2 ^ f.exponentBits := Nat.pow_le_pow_right (n := 2) (by decide) he
  have hinf : ∀ q : Nat, q + 3 ≤ 2 ^ f.exponentBits → (q + 2) * f.binade ≤ f.infRung := fun q h => by
    unfold Format.infRung
    exact Nat.mul_le_mul_right _ (by omega)
  by_cases h0 : m = 0
  · subst h0
    have h1 := hinf 0 (by omega)
    rw [show rungOf f 0 p = 0 from rfl, mval_zero]
    refine ⟨by omega, by simp⟩
  have hl : m.log2 ≤ f.fractionBits := by
    have := (Nat.log2_lt h0).2 hm; omega
  unfold rungOf
  rw [if_neg h0]
  simp only
  generalize hL : max (p + m.log2 - f.fractionBits) f.leastPlace = L
  have hLp : L ≤ p := by omega
  rw [show (L - p).toNat = 0 by omega, cutS_zero]
  have hlow := Nat.log2_self_le h0
  have hhi := Nat.lt_log2_self (n := m)
  have k2 : m * 2 ^ (p - L).toNat < 2 * f.binade := by
    refine Nat.lt_of_lt_of_le (Nat.mul_lt_mul_of_pos_right hhi (Nat.two_pow_pos _)) ?_
    unfold Format.binade
    rw [← Nat.pow_add, Nat.mul_comm, ← Nat.pow_succ]
    exact Nat.pow_le_pow_right (by decide) (by omega)
  have hEi : ((2 ^ f.exponentBits : Nat) : Int) = 2 ^ f.exponentBits := by simp
  have hi := hinf (L - f.leastPlace).toNat (by omega)
  have hs : ((L - f.leastPlace).toNat + 2) * f.binade = (L - f.leastPlace).toNat * f.binade + 2 * f.binade := Nat.add_mul ..
  rw [Nat.min_eq_left (by omega)]
  refine ⟨by omega, ?_⟩
  have e : m * 2 ^ (p - f.leastPlace).toNat = m * 2 ^ (p - L).toNat * 2 ^ (L - f.leastPlace).toNat := by
    rw [Nat.mul_assoc, ← Nat.pow_add]
    congr 2
    omega
  rw [e]
  rcases Nat.eq_zero_or_pos (L - f.leastPlace).toNat with c | c
  · rw [c]
    generalize m * 2 ^ (p - L).toNat = k at *
    rw [Nat.zero_mul, Nat.zero_add, Nat.pow_zero, Nat.mul_one]
    unfold mval
    split
    · rfl
    · rename_i c2
      have : k = (k - f.binade) + f.binade * 1 := by omega
      rw [this, Nat.add_mul_mod_self_left, Nat.mod_eq_of_lt (by omega), Nat.add_mul_div_left _ _ hB, Nat.div_eq_of_lt (by omega)]
      simp; omega
  · have k1 : f.binade ≤ m * 2 ^ (p - L).toNat := by
      refine Nat.le_trans ?_ (Nat.mul_le_mul_right _ hlow)
      unfold Format.binade
      rw [← Nat.pow_add]
      exact Nat.pow_le_pow_right (by decide) (by omega)
    generalize m * 2 ^ (p - L).toNat = k at *
    generalize (L - f.leastPlace).toNat = q at *
    unfold mval
    have hge : ¬ (q * f.binade + k < f.binade) := by omega
    rw [if_neg hge]
    have : q * f.binade + k = (k - f.binade) + f.binade * (q + 1) := by rw [Nat.mul_succ, Nat.mul_comm]; omega
    rw [this, Nat.add_mul_mod_self_left, Nat.mod_eq_of_lt (by omega), Nat.add_mul_div_left _ _ hB, Nat.div_eq_of_lt (by omega)]
    rw [show f.binade + (k - f.binade) = k by omega, show 0 + (q + 1) - 1 = q by omega]
end Go.Proofs.YtpeckiaimellmaaDoor.Flo
/-
  Words as signs and rungs: reading, writing, the order, from one format to another. No program is named here.
-/
namespace Go.Proofs.YtpeckiaimellmaaDoor.Flo
open Ieee
set_option linter.unusedVariables false

def neg (f : Format) (x : Nat) : Bool := x / f.signWeight % 2 == 1
def rung (f : Format) (x : Nat) : Nat := x % f.signWeight
/-- A number with its sign. -/
def sgn (s : Bool) (n : Nat) : Int := if s then -(n : Int) else n

theorem sign_pos (f : Format) : 0 < f.signWeight := Nat.two_pow_pos _
theorem rung_lt (f : Format) (x : Nat) : rung f x < f.signWeight := Nat.mod_lt _ (sign_pos f)
theorem width_sign (f : Format) : 2 ^ f.width = 2 * f.signWeight := by
  unfold Format.width Format.signWeight
  rw [Nat.add_assoc, Nat.add_comm 1, Nat.pow_succ, Nat.mul_comm]
theorem word_parts (f : Format) {x : Nat} (h : x < 2 ^ f.width) : f.word (neg f x) (rung f x) = x := by
  rw [width_sign] at h
  have hd := Nat.div_add_mod x f.signWeight
  have hp := sign_pos f
  unfold Format.word neg rung
  have hq : x / f.signWeight < 2 := (Nat.div_lt_iff_lt_mul hp).2 (by omega)
  generalize x / f.signWeight = q at *
  rcases (show q = 0 ∨ q = 1 by omega) with e | e <;> subst e <;> simp <;> omega
theorem neg_word (f : Format) (s : Bool) {r : Nat} (h : r < f.signWeight) : neg f (f.word s r) = s := by
  have hp := sign_pos f
  unfold Format.word neg
  cases s
  · simp [Nat.div_eq_of_lt h]
  · simp only [if_true]
    rw [Nat.add_div_left _ hp, Nat.div_eq_of_lt h]; rfl
theorem rung_word (f : Format) (s : Bool) {r : Nat} (h : r < f.signWeight) : rung f (f.word s r) = r := by
  unfold Format.word rung
  cases s
  · simp [Nat.mod_eq_of_lt h]
  · simp [Nat.mod_eq_of_lt h]

structure Good (f : Format) : Prop where
  eb : 3 ≤ f.exponentBits
  fb : 1 ≤ f.fractionBits
  small : f.fractionBits ≤ 2 ^ (f.exponentBits - 1)
theorem good_single : Good single := ⟨by decide, by decide, by decide⟩
theorem good_double : Good double := ⟨by decide, by decide, by decide⟩
theorem Good.four {f : Format} (g : Good f) : 4 ≤ 2 ^ f.exponentBits := Nat.pow_le_pow_right (n := 2) (by decide) (Nat.le_of_succ_le g.eb)
theorem Good.binade_lt_inf {f : Format} (g : Good f) : 3 * f.binade ≤ f.infRung := by
  have := g.four
  unfold Format.infRung
  exact Nat.mul_le_mul_right _ (by omega)

/-- A word that is a number has a magnitude and a place. -/
theorem parts_of {f : Format} (g : Good f) {r : Nat} (h : r < f.infRung) : ∃ m : Nat, ∃ k : Nat, m < 2 ^ (f.fractionBits + 1) ∧ k + 3 ≤ 2 ^ f.exponentBits ∧ mval f r = m * 2 ^ k ∧
    ∀ x : Nat, rung f x = r → f.read x = .number (neg f x) m (f.leastPlace + k) := by
  have hB := binade_pos f
  have hlt := binade_lt f
  have h4 := g.four
  by_cases c : r < f.binade
  · refine ⟨r, 0, by omega, by omega, by unfold mval; rw [if_pos c]; simp, fun x hx => ?_⟩
    unfold Format.read
    unfold rung at hx
    simp only [hx, if_pos c]
    unfold neg
    simp
  · refine ⟨f.binade + r % f.binade, r / f.binade - 1, ?_, ?_, ?_, fun x hx => ?_⟩
    · have := Nat.mod_lt r hB
      have e : 2 ^ (f.fractionBits + 1) = 2 * f.binade := by rw [Nat.pow_succ, Nat.mul_comm]; rfl
      omega
    · have h2 : r / f.binade < 2 ^ f.exponentBits - 1 := (Nat.div_lt_iff_lt_mul hB).2 h
      have h1 : 1 ≤ r / f.binade := (Nat.le_div_iff_mul_le hB).2 (by omega)
      generalize r / f.binade = q at *
      generalize 2 ^ f.exponentBits = e at *
      omega
    · unfold mval; rw [if_neg c]
    · unfold Format.read
      unfold rung at hx
      simp only [hx, if_neg c, if_pos h]
      rfl
theorem read_inf {f : Format} (g : Good f) {x : Nat} (h : rung f x = f.infRung) : f.read x = .infinity (neg f x) := by
  have hB := binade_pos f
  have := g.binade_lt_inf
  unfold Format.read
  unfold rung at h
  simp only [h]
  rw [if_neg (by omega), if_neg (by omega), if_pos trivial]
  rfl
theorem read_nan {f : Format} (g : Good f) {x : Nat} (h : f.infRung < rung f x) : f.read x = .nan (neg f x) (rung f x - f.infRung) := by
  have hB := binade_pos f
  have := g.binade_lt_inf
  unfold Format.read
  unfold rung at *
  simp only
  rw [if_neg (by omega), if_neg (by omega), if_neg (by omega)]
  rfl

theorem rung_le_inf (f : Format) (m : Nat) (p : Int) : rungOf f m p ≤ f.infRung := by
  unfold rungOf
  split
  · exact Nat.zero_le _
  · exact Nat.min_le_right ..

theorem write_number (f : Format) (s : Bool) (m : Nat) (p : Int) : f.write (.number s m p) = f.word s (rungOf f m p) := nearest_eq f s m p
theorem write_inf (f : Format) (s : Bool) : f.write (.infinity s) = f.word s f.infRung := rfl

/-! the order -/

theorem cmp_congr {a b c d : Int} (h1 : a < b ↔ c < d) (h2 : a = b ↔ c = d) : compare a b = compare c d := by
  show compareOfLessAndEq a b = compareOfLessAndEq c d
  unfold compareOfLessAndEq
  simp only [h1, h2]

theorem signed_eq (s : Bool) (m u : Nat) : signed s m u = sgn s (m * 2 ^ u) := by
  unfold signed sgn
  simp only [Nat.shiftLeft_eq]

theorem sgn_mul (s : Bool) (a K : Nat) : sgn s (a * K) = sgn s a * K := by
  unfold sgn
  cases s <;> simp [Int.neg_mul]

theorem cmp_of_lt {a b : Int} (h : a < b) : compare a b = .lt := by
  show compareOfLessAndEq a b = _
  unfold compareOfLessAndEq
  rw [if_pos h]
theorem cmp_of_gt {a b : Int} (h : b < a) : compare a b = .gt := by
  show compareOfLessAndEq a b = _
  unfold compareOfLessAndEq
  rw [if_neg (by omega), if_neg (by omega)]
theorem cmp_of_eq {a b : Int} (h : a = b) : compare a b = .eq := by
  show compareOfLessAndEq a b = _
  unfold compareOfLessAndEq
  rw [if_neg (by omega), if_pos h]

/-- What rises with the rungs orders them. -/
theorem cmp_rises {s t : Bool} {r q : Nat} {P : Nat → Nat} (h1 : P r < P q ↔ r < q) (h2 : P q < P r ↔ q < r) (h3 : P r = 0 ↔ r = 0) (h4 : P q = 0 ↔ q = 0) :
    compare (sgn s (P r)) (sgn t (P q)) = compare (sgn s r) (sgn t q) := by
  apply cmp_congr <;> unfold sgn <;> cases s <;> cases t <;> simp <;> omega

def place (f : Format) (x : Nat) : Int := sgn (neg f x) (rung f x)

theorem order_place {f : Format} (g : Good f) {x y : Nat} (hx : rung f x ≤ f.infRung) (hy : rung f y ≤ f.infRung) : f.order x y = some (compare (place f x) (place f y)) := by
  have hmono : ∀ {r q : Nat}, mval f r < mval f q ↔ r < q := mval_lt_iff f
  have hz : ∀ {r : Nat}, mval f r = 0 ↔ r = 0 := fun {r} => ⟨fun h => mval_inj f (h.trans (mval_zero f).symm), fun h => by rw [h, mval_zero]⟩
  have h4 := g.binade_lt_inf
  have hB := binade_pos f
  unfold Format.order
  rcases Nat.lt_or_ge (rung f x) f.infRung with cx | cx
  · obtain ⟨m, k, _, _, ex, rx⟩ := parts_of g cx
    rw [rx x rfl]
    rcases Nat.lt_or_ge (rung f y) f.infRung with cy | cy
    · obtain ⟨n, l, _, _, ey, ry⟩ := parts_of g cy
      rw [ry y rfl]
      simp only [Datum.order, signed_eq]
      congr 1
      unfold place
      rw [← cmp_rises (r := rung f x) (q := rung f y) (P := mval f) hmono hmono hz hz, ex, ey]
      have e1 : m * 2 ^ k = m * 2 ^ (f.leastPlace + k - min (f.leastPlace + k) (f.leastPlace + l)).toNat * 2 ^ (min k l) := by
        rw [Nat.mul_assoc, ← Nat.pow_add]; congr 2; omega
      have e2 : n * 2 ^ l = n * 2 ^ (f.leastPlace + l - min (f.leastPlace + k) (f.leastPlace + l)).toNat * 2 ^ (min k l) := by
        rw [Nat.mul_assoc, ← Nat.pow_add]; congr 2; omega
      rw [e1, e2]
      generalize m * 2 ^ (f.leastPlace + k - min (f.leastPlace + k) (f.leastPlace + l)).toNat = u
      generalize n * 2 ^ (f.leastPlace + l - min (f.leastPlace + k) (f.leastPlace + l)).toNat = v
      rw [sgn_mul, sgn_mul]
      have hp : (0 : Int) < ((2 ^ min k l : Nat) : Int) := by have := Nat.two_pow_pos (min k l); omega
      exact cmp_congr (Int.mul_lt_mul_right hp).symm (by rw [Int.mul_eq_mul_right_iff (by omega)])
    · have cy' : rung f y = f.infRung := by omega
      rw [read_inf g cy']
      simp only [Datum.order]
      congr 1
      unfold place
      rw [cy']
      clear rx
      cases neg f y
      · exact (cmp_of_lt (by unfold sgn; cases neg f x <;> simp <;> omega)).symm
      · exact (cmp_of_gt (by unfold sgn; cases neg f x <;> simp <;> omega)).symm
  · have cx' : rung f x = f.infRung := by omega
    rw [read_inf g cx']
    rcases Nat.lt_or_ge (rung f y) f.infRung with cy | cy
    · obtain ⟨n, l, _, _, ey, ry⟩ := parts_of g cy
      rw [ry y rfl]
      simp only [Datum.order]
      congr 1
      unfold place
      rw [cx']
      clear ry
      cases neg f x
      · exact (cmp_of_gt (by unfold sgn; cases neg f y <;> simp <;> omega)).symm
      · exact (cmp_of_lt (by unfold sgn; cases neg f y <;> simp <;> omega)).symm
    · have cy' : rung f y = f.infRung := by omega
      rw [read_inf g cy']
      simp only [Datum.order]
      congr 1
      unfold place
      rw [cx', cy']
      have hpos : 0 < f.infRung := by omega
      generalize f.infRung = i at *
      cases neg f y <;> cases neg f x
      · exact (cmp_of_eq rfl).symm
      · exact (cmp_of_lt (by unfold sgn; simp; omega)).symm
      · exact (cmp_of_gt (by unfold sgn; simp; omega)).symm
      · exact (cmp_of_eq rfl).symm

theorem order_nan_l {f : Format} (g : Good f) {x y : Nat} (hx : f.infRung < rung f x) : f.order x y = none := by
  unfold Format.order
  rw [read_nan g hx]
  unfold Datum.order
  rfl
theorem order_nan_r {f : Format} (g : Good f) {x y : Nat} (hy : f.infRung < rung f y) : f.order x y = none := by
  unfold Format.order
  rw [read_nan g hy]
  cases f.read x <;> rfl

/-! writing what was read -/

theorem write_read {f : Format} (g : Good f) {x : Nat} (h : x < 2 ^ f.width) (hx : rung f x ≤ f.infRung) : f.write (f.read x) = x := by
  rcases Nat.lt_or_ge (rung f x) f.infRung with c | c
  · obtain ⟨m, k, _, _, e, r⟩ := parts_of g c
    rw [r x rfl, write_number]
    have : rungOf f m (f.leastPlace + k) = rung f x := by
      rw [← rung_scale, ← e, rung_mval f hx]
    rw [this, word_parts f h]
  · have e : rung f x = f.infRung := by omega
    rw [read_inf g e, write_inf, ← e, word_parts f h]

/-! from single to double and back -/

theorem lp_single : single.leastPlace = -149 := by decide
theorem lp_double : double.leastPlace = -1074 := by decide
theorem inf_single : single.infRung = 2139095040 := by decide
theorem inf_double : double.infRung = 9218868437227405312 := by decide
theorem sw_single : single.signWeight = 2147483648 := by decide
theorem sw_double : double.signWeight = 9223372036854775808 := by decide
theorem binade_single : single.binade = 8388608 := by decide
theorem binade_double : double.binade = 4503599627370496 := by decide

def gap : Nat := 925
theorem gap_is : gap = 925 := rfl

def prom (r : Nat) : Nat := if r < single.infRung then rungOf double (mval single r) single.leastPlace else double.infRung
def dem (r : Nat) : Nat := if r < double.infRung then rungOf single (mval double r) double.leastPlace else single.infRung

theorem prom_worth {r : Nat} (h : r < single.infRung) : prom r < double.infRung ∧ mval double (prom r) = mval single r * 2 ^ gap := by
  obtain ⟨m, k, hm, hk, e, _⟩ := parts_of good_single h
  unfold prom
  rw [if_pos h, e, rung_scale]
  have hl : m.log2 < 24 := by
    by_cases h0 : m = 0
    · subst h0; decide
    · exact (Nat.log2_lt h0).2 hm
  have hk' : k + 3 ≤ 256 := hk
  have := rung_exact double (m := m) (p := single.leastPlace + k) (Nat.lt_of_lt_of_le hm (by decide)) (by rw [lp_single, lp_double]; omega) (by
    rw [lp_single, lp_double]
    show (-149 + (k : Int) + m.log2 - 52 - -1074 + 3 : Int) ≤ 2048
    omega) (by decide)
  refine ⟨this.1, ?_⟩
  rw [this.2, Nat.mul_assoc, ← Nat.pow_add, lp_single, lp_double]
  congr 2
  rw [gap_is]
  omega
theorem prom_inf : prom single.infRung = double.infRung := by unfold prom; rw [if_neg (Nat.lt_irrefl _)]
theorem prom_zero : prom 0 = 0 := by
  unfold prom
  rw [if_pos (by decide), mval_zero]
  rfl
theorem prom_le {r : Nat} (h : r ≤ single.infRung) : prom r ≤ double.infRung := by
  rcases Nat.lt_or_ge r single.infRung with c | c
  · exact Nat.le_of_lt (prom_worth c).1
  · unfold prom; rw [if_neg (by omega)]; exact Nat.le_refl _
theorem prom_lt {r s : Nat} (h : r < s) (hs : s ≤ single.infRung) : prom r < prom s := by
  have hr : r < single.infRung := by omega
  obtain ⟨a, b⟩ := prom_worth hr
  rcases Nat.lt_or_ge s single.infRung with c | c
  · obtain ⟨a', b'⟩ := prom_worth c
    rw [← mval_lt_iff double, b, b']
    exact Nat.mul_lt_mul_of_pos_right (mval_lt _ h) (Nat.two_pow_pos _)
  · rw [show s = single.infRung by omega, prom_inf]
    exact a
theorem prom_lt_iff {r s : Nat} (hr : r ≤ single.infRung) (hs : s ≤ single.infRung) : prom r < prom s ↔ r < s := by
  refine ⟨fun h => ?_, fun h => prom_lt h hs⟩
  rcases Nat.lt_trichotomy r s with c | c | c
  · exact c
  · subst c; omega
  · have := prom_lt c hr; omega
theorem prom_zero_iff {r : Nat} (hr : r ≤ single.infRung) : prom r = 0 ↔ r = 0 := by
  refine ⟨fun h => ?_, fun h => by rw [h, prom_zero]⟩
  rcases Nat.eq_zero_or_pos r with c | c
  · exact c
  · have := prom_lt c hr
    rw [prom_zero] at this
    omega
theorem dem_prom {r : Nat} (h : r ≤ single.infRung) : dem (prom r) = r := by
  rcases Nat.lt_or_ge r single.infRung with c | c
  · obtain ⟨a, b⟩ := prom_worth c
    unfold dem
    rw [if_pos a, b, rung_scale]
    have : double.leastPlace + gap = single.leastPlace := by decide
    rw [this, rung_mval _ h]
  · rw [show r = single.infRung by omega, prom_inf]
    unfold dem
    rw [if_neg (Nat.lt_irrefl _)]
theorem dem_le (r : Nat) : dem r ≤ single.infRung := by
  unfold dem
  split
  · exact rung_le_inf ..
  · exact Nat.le_refl _
theorem dem_mono {r s : Nat} (h : r ≤ s) : dem r ≤ dem s := by
  unfold dem
  split
  · split
    · refine rung_mono_at _ _ ?_
      rcases Nat.lt_or_ge r s with c | c
      · exact Nat.le_of_lt (mval_lt _ c)
      · rw [show r = s by omega]; exact Nat.le_refl _
    · exact rung_le_inf ..
  · rw [if_neg (by omega)]
    exact Nat.le_refl _

/-- What the conversion of single to double gives. -/
theorem promote {x : Nat} (h : rung single x ≤ single.infRung) : double.write (single.read x) = double.word (neg single x) (prom (rung single x)) := by
  rcases Nat.lt_or_ge (rung single x) single.infRung with c | c
  · obtain ⟨m, k, _, _, e, r⟩ := parts_of good_single c
    rw [r x rfl, write_number]
    unfold prom
    rw [if_pos c, e, rung_scale]
  · have e : rung single x = single.infRung := by omega
    rw [read_inf good_single e, write_inf, e, prom_inf]
/-- What the conversion of double to single gives. -/
theorem demote {x : Nat} (h : rung double x ≤ double.infRung) : single.write (double.read x) = single.word (neg double x) (dem (rung double x)) := by
  rcases Nat.lt_or_ge (rung double x) double.infRung with c | c
  · obtain ⟨m, k, _, _, e, r⟩ := parts_of good_double c
    rw [r x rfl, write_number]
    unfold dem
    rw [if_pos c, e, rung_scale]
  · have e : rung double x = double.infRung := by omega
    rw [read_inf good_double e, write_inf, e]
    unfold dem
    rw [if_neg (Nat.lt_irrefl _)]

theorem inf_lt_sw (f : Format) : f.infRung < f.signWeight := f.infRung_lt

/-- The order of what was made double is the order of the singles. -/
theorem order_prom {x y : Nat} (hx : rung single x ≤ single.infRung) (hy : rung single y ≤ single.infRung) :
    double.order (double.word (neg single x) (prom (rung single x))) (double.word (neg single y) (prom (rung single y))) = some (compare (place single x) (place single y)) := by
  have hlt := inf_lt_sw double
  have h1 := prom_le hx
  have h2 := prom_le hy
  rw [order_place good_double (by rw [rung_word _ _ (by omega)]; exact h1) (by rw [rung_word _ _ (by omega)]; exact h2)]
  unfold place
  rw [rung_word _ _ (by omega), rung_word _ _ (by omega), neg_word _ _ (by omega), neg_word _ _ (by omega)]
  rw [cmp_rises (P := prom) (prom_lt_iff hx hy) (prom_lt_iff hy hx) (prom_zero_iff hx) (prom_zero_iff hy)]
end Go.Proofs.YtpeckiaimellmaaDoor.Flo
/-
  Rounding to a whole number, on rungs; square roots, on rungs. No program is named here.
-/
namespace Go.Proofs.YtpeckiaimellmaaDoor.Flo
open Ieee
set_option linter.unusedVariables false

def bias (f : Format) : Nat := 2 ^ (f.exponentBits - 1) - 1
/-- Digits behind the point, at a rung between 1 and what is whole. -/
def tail (f : Format) (r : Nat) : Nat := f.fractionBits + bias f - r / f.binade

/-- The whole rung at or below; whether that is it; whether the rest is more than a half; a half. -/
def wholeF (f : Format) (r : Nat) : Nat × Bool × Bool × Bool :=
  if bias f + f.fractionBits ≤ r / f.binade then (r, true, false, false)
  else if r / f.binade < bias f then (0, decide (r = 0), decide (r / f.binade + 1 = bias f) && decide (r % f.binade ≠ 0), decide (r / f.binade + 1 = bias f) && decide (r % f.binade = 0))
  else (r - r % 2 ^ tail f r, decide (r % 2 ^ tail f r = 0), decide (2 ^ (tail f r - 1) < r % 2 ^ tail f r), decide (r % 2 ^ tail f r = 2 ^ (tail f r - 1)))
def upF (f : Format) (m : Nat) : Nat := if m = 0 then bias f * f.binade else m + 2 ^ tail f m
def oddF (f : Format) (m : Nat) : Bool :=
  if m / f.binade < bias f ∨ bias f + f.fractionBits < m / f.binade then false else decide ((f.binade + m % f.binade) / 2 ^ tail f m % 2 = 1)
def goesF (f : Format) (way : Toward) (s : Bool) (r : Nat) : Bool :=
  match way with
  | .up => !s && !(wholeF f r).2.1
  | .down => s && !(wholeF f r).2.1
  | .even => (wholeF f r).2.2.1 || ((wholeF f r).2.2.2 && oddF f (wholeF f r).1)
  | .zero => false
def roundF (f : Format) (way : Toward) (s : Bool) (r : Nat) : Nat := if goesF f way s r then upF f (wholeF f r).1 else (wholeF f r).1

/-- What 1 is worth. -/
def unit (f : Format) : Nat := 2 ^ (f.fractionBits + bias f - 1)

theorem Good.bias_pos {f : Format} (g : Good f) : 3 ≤ bias f := by
  have : 2 ^ 2 ≤ 2 ^ (f.exponentBits - 1) := Nat.pow_le_pow_right (by decide) (by have := g.eb; omega)
  unfold bias; omega
theorem Good.lp {f : Format} (g : Good f) : f.leastPlace = 1 - (bias f : Int) - f.fractionBits := by
  have h := g.bias_pos
  have hp := Nat.two_pow_pos (f.exponentBits - 1)
  unfold Format.leastPlace
  have e : ((2 : Int) ^ (f.exponentBits - 1)) = ((2 ^ (f.exponentBits - 1) : Nat) : Int) := by simp
  rw [e]
  unfold bias at *
  omega
theorem Good.two_bias {f : Format} (g : Good f) : 2 ^ f.exponentBits = 2 * bias f + 2 := by
  have := g.eb
  have hp := Nat.two_pow_pos (f.exponentBits - 1)
  rw [show f.exponentBits = (f.exponentBits - 1) + 1 by omega, Nat.pow_succ]
  unfold bias
  omega
theorem Good.inf_eq {f : Format} (g : Good f) : f.infRung = (2 * bias f + 1) * f.binade := by
  unfold Format.infRung
  rw [g.two_bias]
  rfl
theorem Good.fb_le {f : Format} (g : Good f) : f.fractionBits ≤ bias f + 1 := by
  have := g.small
  have hp := Nat.two_pow_pos (f.exponentBits - 1)
  unfold bias; omega

/-- The three kinds of rungs. -/
inductive Kind (f : Format) (r : Nat) : Prop
  | great (h : bias f + f.fractionBits ≤ r / f.binade) (d : unit f ∣ mval f r) (w : wholeF f r = (r, true, false, false))
  | small (h : r / f.binade < bias f) (l : mval f r < unit f) (m : unit f < 2 * mval f r ↔ (r / f.binade + 1 = bias f ∧ r % f.binade ≠ 0)) (e : unit f = 2 * mval f r ↔ (r / f.binade + 1 = bias f ∧ r % f.binade = 0))
      (w : wholeF f r = (0, decide (r = 0), decide (r / f.binade + 1 = bias f) && decide (r % f.binade ≠ 0), decide (r / f.binade + 1 = bias f) && decide (r % f.binade = 0)))
  | mid (q t k : Nat) (hq : bias f ≤ q) (hk : 1 ≤ k) (hk' : k ≤ f.fractionBits) (hs : q + k = bias f + f.fractionBits) (hr : r = f.binade * q + t) (ht : t < f.binade)
      (ex : mval f r = (f.binade + t) * 2 ^ (q - 1)) (u : unit f = 2 ^ k * 2 ^ (q - 1)) (b : ∃ c, f.binade = 2 ^ k * c ∧ 0 < c) (mt : r % 2 ^ k = t % 2 ^ k)
      (w : wholeF f r = (r - t % 2 ^ k, decide (t % 2 ^ k = 0), decide (2 ^ (k - 1) < t % 2 ^ k), decide (t % 2 ^ k = 2 ^ (k - 1))))

theorem kind_of {f : Format} (g : Good f) (r : Nat) : Kind f r := by
  have hB := binade_pos f
  have hb := g.bias_pos
  have hfb := g.fb
  have hd := Nat.div_add_mod r f.binade
  have hm := Nat.mod_lt r hB
  by_cases c : bias f + f.fractionBits ≤ r / f.binade
  · refine .great c ?_ (by unfold wholeF; rw [if_pos c])
    unfold mval
    rw [if_neg (by intro h; rw [Nat.div_eq_of_lt h] at c; omega)]
    refine Nat.dvd_mul_left_of_dvd ?_ _
    exact Nat.pow_dvd_pow 2 (by omega)
  · by_cases c2 : r / f.binade < bias f
    · have hu : unit f = f.binade * 2 ^ (bias f - 1) := by
        unfold unit Format.binade
        rw [← Nat.pow_add]; congr 1; omega
      have hw : wholeF f r = (0, decide (r = 0), decide (r / f.binade + 1 = bias f) && decide (r % f.binade ≠ 0), decide (r / f.binade + 1 = bias f) && decide (r % f.binade = 0)) := by
        unfold wholeF; rw [if_neg c, if_pos c2]
      by_cases c3 : r < f.binade
      · have e0 : r / f.binade = 0 := Nat.div_eq_of_lt c3
        have e1 : r % f.binade = r := Nat.mod_eq_of_lt c3
        have ev : mval f r = r := by unfold mval; rw [if_pos c3]
        have : 2 * 1 ≤ 2 ^ (bias f - 1) := by
          have := Nat.pow_le_pow_right (n := 2) (by decide) (show 1 ≤ bias f - 1 by omega)
          simpa using this
        have h2 : f.binade * (2 * 1) ≤ unit f := by rw [hu]; exact Nat.mul_le_mul_left _ this
        refine .small c2 (by omega) ?_ ?_ hw
        · rw [ev, e0]; constructor
          · intro; omega
          · rintro ⟨h, _⟩; omega
        · rw [ev, e0]; constructor
          · intro; omega
          · rintro ⟨h, _⟩; omega
      · have hq1 : 1 ≤ r / f.binade := (Nat.le_div_iff_mul_le hB).2 (by omega)
        have ev : mval f r = (f.binade + r % f.binade) * 2 ^ (r / f.binade - 1) := by unfold mval; rw [if_neg c3]
        generalize hq : r / f.binade = q at *
        generalize ht : r % f.binade = t at *
        have hp := Nat.two_pow_pos (q - 1)
        have hu2 : unit f = f.binade * (2 * 2 ^ (bias f - 1 - q)) * 2 ^ (q - 1) := by
          rw [hu, Nat.mul_assoc, Nat.mul_comm 2, ← Nat.pow_succ, ← Nat.pow_add]
          congr 2; omega
        have hz : 1 ≤ 2 ^ (bias f - 1 - q) := Nat.two_pow_pos _
        have hb1 : f.binade * 1 ≤ f.binade * 2 ^ (bias f - 1 - q) := Nat.mul_le_mul_left _ hz
        have hb2 : f.binade * (2 * 2 ^ (bias f - 1 - q)) = 2 * (f.binade * 2 ^ (bias f - 1 - q)) := by rw [← Nat.mul_assoc, Nat.mul_comm _ 2, Nat.mul_assoc]
        refine .small (by rw [hq]; exact c2) ?_ ?_ ?_ (by rw [hq, ht]; exact hw)
        · rw [ev, hu2]
          exact Nat.mul_lt_mul_of_pos_right (by omega) hp
        · rw [hq, ht, ev, hu2, ← Nat.mul_assoc 2, Nat.mul_lt_mul_right hp, hb2]
          rcases Nat.lt_or_ge (q + 1) (bias f) with c4 | c4
          · have : 2 * 1 ≤ 2 ^ (bias f - 1 - q) := by
              have := Nat.pow_le_pow_right (n := 2) (by decide) (show 1 ≤ bias f - 1 - q by omega)
              simpa using this
            have := Nat.mul_le_mul_left f.binade this
            omega
          · rw [show bias f - 1 - q = 0 by omega]
            omega
        · rw [hq, ht, ev, hu2, ← Nat.mul_assoc 2, Nat.mul_left_inj (by omega), hb2]
          rcases Nat.lt_or_ge (q + 1) (bias f) with c4 | c4
          · have : 2 * 1 ≤ 2 ^ (bias f - 1 - q) := by
              have := Nat.pow_le_pow_right (n := 2) (by decide) (show 1 ≤ bias f - 1 - q by omega)
              simpa using this
            have := Nat.mul_le_mul_left f.binade this
            omega
          · rw [show bias f - 1 - q = 0 by omega]
            omega
    · have hq1 : 1 ≤ r / f.binade := by omega
      have c3 : ¬ r < f.binade := by intro h; rw [Nat.div_eq_of_lt h] at hq1; omega
      have ev : mval f r = (f.binade + r % f.binade) * 2 ^ (r / f.binade - 1) := by unfold mval; rw [if_neg c3]
      have hw : wholeF f r = (r - r % 2 ^ tail f r, decide (r % 2 ^ tail f r = 0), decide (2 ^ (tail f r - 1) < r % 2 ^ tail f r), decide (r % 2 ^ tail f r = 2 ^ (tail f r - 1))) := by
        unfold wholeF; rw [if_neg c, if_neg c2]
      have hdv : f.binade = 2 ^ tail f r * 2 ^ (f.fractionBits - tail f r) := by
        unfold Format.binade; rw [← Nat.pow_add]; congr 1; unfold tail; omega
      have hmt : r % 2 ^ tail f r = r % f.binade % 2 ^ tail f r := by
        have := Nat.mod_mod_of_dvd r (show 2 ^ tail f r ∣ f.binade from ⟨_, hdv⟩)
        exact this.symm
      have hu : unit f = 2 ^ tail f r * 2 ^ (r / f.binade - 1) := by
        unfold unit; rw [← Nat.pow_add]; congr 1; unfold tail; omega
      refine .mid (r / f.binade) (r % f.binade) (tail f r) (by omega) (by unfold tail; omega) (by unfold tail; omega) (by unfold tail; omega) hd.symm hm ev hu ⟨_, hdv, Nat.two_pow_pos _⟩ hmt ?_
      rw [hw, hmt]

theorem unit_pos (f : Format) : 0 < unit f := Nat.two_pow_pos _
def points (f : Format) : Nat := f.fractionBits + bias f - 1
theorem unit_pow (f : Format) : unit f = 2 ^ points f := rfl

/-- What is cut off, and what is left. -/
theorem cut_mid {B t k p c : Nat} (hB : B = 2 ^ k * c) : (B + t) * 2 ^ p / (2 ^ k * 2 ^ p) = (B + t) / 2 ^ k ∧ (B + t) * 2 ^ p % (2 ^ k * 2 ^ p) = t % 2 ^ k * 2 ^ p := by
  have hp := Nat.two_pow_pos p
  constructor
  · rw [Nat.mul_div_mul_right _ _ hp]
  · rw [Nat.mul_mod_mul_right, hB, Nat.mul_add_mod]

theorem half_pow {k : Nat} (hk : 1 ≤ k) : 2 ^ k = 2 * 2 ^ (k - 1) := by
  rw [show k = (k - 1) + 1 by omega, Nat.pow_succ, Nat.mul_comm]; rfl

theorem wholeF_exact {f : Format} (g : Good f) (r : Nat) : (wholeF f r).2.1 = decide (mval f r % unit f = 0) := by
  have hz : mval f r = 0 ↔ r = 0 := ⟨fun h => mval_inj f (h.trans (mval_zero f).symm), fun h => by rw [h, mval_zero]⟩
  cases kind_of g r with
  | great h d w => rw [w, Nat.mod_eq_zero_of_dvd d]; rfl
  | small h l m e w => rw [w, Nat.mod_eq_of_lt l]; simp only [hz]
  | mid q t k hq hk hk' hs hr ht ex u b mt w =>
    obtain ⟨c, hc, _⟩ := b
    rw [w, ex, u, (cut_mid hc).2]
    have hp := Nat.two_pow_pos (q - 1)
    simp only [Nat.mul_eq_zero, show ¬ 2 ^ (q - 1) = 0 by omega, or_false]
theorem wholeF_more {f : Format} (g : Good f) (r : Nat) : (wholeF f r).2.2.1 = decide (unit f < 2 * (mval f r % unit f)) := by
  have hu := unit_pos f
  cases kind_of g r with
  | great h d w => rw [w, Nat.mod_eq_zero_of_dvd d]; simp
  | small h l m e w => rw [w, Nat.mod_eq_of_lt l]; simp only [m, Bool.decide_and]
  | mid q t k hq hk hk' hs hr ht ex u b mt w =>
    obtain ⟨c, hc, _⟩ := b
    rw [w, ex, u, (cut_mid hc).2]
    have hp := Nat.two_pow_pos (q - 1)
    simp only
    congr 1
    rw [← Nat.mul_assoc, Nat.mul_lt_mul_right hp, half_pow hk]
    apply propext
    omega
theorem wholeF_half {f : Format} (g : Good f) (r : Nat) : (wholeF f r).2.2.2 = decide (unit f = 2 * (mval f r % unit f)) := by
  have hu := unit_pos f
  cases kind_of g r with
  | great h d w => rw [w, Nat.mod_eq_zero_of_dvd d]; simp; omega
  | small h l m e w => rw [w, Nat.mod_eq_of_lt l]; simp only [e, Bool.decide_and]
  | mid q t k hq hk hk' hs hr ht ex u b mt w =>
    obtain ⟨c, hc, _⟩ := b
    rw [w, ex, u, (cut_mid hc).2]
    have hp := Nat.two_pow_pos (q - 1)
    simp only
    congr 1
    rw [← Nat.mul_assoc, Nat.mul_left_inj (by omega), half_pow hk]
    apply propext
    omega

/-- A rung of a binade. -/
theorem mval_at {f : Format} {q t : Nat} (hq : 1 ≤ q) (ht : t ≤ f.binade) : mval f (f.binade * q + t) = (f.binade + t) * 2 ^ (q - 1) := by
  have hB := binade_pos f
  unfold mval
  have hge : f.binade * 1 ≤ f.binade * q := Nat.mul_le_mul_left _ hq
  rw [if_neg (by omega)]
  rcases Nat.lt_or_ge t f.binade with c | c
  · rw [Nat.mul_add_mod, Nat.mod_eq_of_lt c, Nat.mul_add_div hB, Nat.div_eq_of_lt c, Nat.add_zero]
  · rw [show t = f.binade by omega, ← Nat.mul_succ, Nat.mul_mod_right, Nat.mul_div_cancel_left _ hB]
    rw [show q.succ - 1 = (q - 1) + 1 by omega, Nat.pow_succ, Nat.add_zero, Nat.mul_comm (2 ^ (q - 1)) 2, ← Nat.mul_assoc]
    congr 1
    omega

theorem wholeF_worth {f : Format} (g : Good f) (r : Nat) : mval f (wholeF f r).1 = mval f r / unit f * unit f := by
  have hb := g.bias_pos
  cases kind_of g r with
  | great h d w => rw [w, Nat.div_mul_cancel d]
  | small h l m e w => rw [w, Nat.div_eq_of_lt l, Nat.zero_mul]; exact mval_zero f
  | mid q t k hq hk hk' hs hr ht ex u b mt w =>
    obtain ⟨c, hc, _⟩ := b
    rw [w, ex, u, (cut_mid hc).1]
    have hle := Nat.mod_le t (2 ^ k)
    simp only
    rw [hr, show f.binade * q + t - t % 2 ^ k = f.binade * q + (t - t % 2 ^ k) by omega, mval_at (by omega) (by omega), ← Nat.mul_assoc]
    congr 1
    have hd := Nat.div_add_mod (f.binade + t) (2 ^ k)
    have hm : (f.binade + t) % 2 ^ k = t % 2 ^ k := by rw [hc, Nat.mul_add_mod]
    rw [hm, Nat.mul_comm] at hd
    omega

theorem pts {f : Format} (g : Good f) : points f = (-f.leastPlace).toNat := by
  rw [g.lp]; unfold points; have := g.bias_pos; omega

theorem upF_worth {f : Format} (g : Good f) (r : Nat) (h : r / f.binade < bias f + f.fractionBits) :
    mval f (upF f (wholeF f r).1) = mval f (wholeF f r).1 + unit f ∧ upF f (wholeF f r).1 ≤ f.infRung := by
  have hb := g.bias_pos
  have hB := binade_pos f
  have hfb := g.fb_le
  have hle1 : bias f * f.binade ≤ f.infRung := by rw [g.inf_eq]; exact Nat.mul_le_mul_right _ (by omega)
  have h1 : mval f (bias f * f.binade) = unit f := by
    have := mval_at (f := f) (q := bias f) (t := 0) (by omega) (by omega)
    rw [Nat.add_zero, Nat.add_zero, Nat.mul_comm] at this
    rw [this]
    unfold unit Format.binade
    rw [← Nat.pow_add]; congr 1; omega
  cases kind_of g r with
  | great h' d w => omega
  | small h' l m e w =>
    rw [w]
    unfold upF
    simp only [if_true, mval_zero, Nat.zero_add]
    exact ⟨h1, hle1⟩
  | mid q t k hq hk hk' hs hr ht ex u b mt w =>
    obtain ⟨c, hc, hc0⟩ := b
    rw [w]
    simp only
    have hmle := Nat.mod_le t (2 ^ k)
    have e1 : r - t % 2 ^ k = f.binade * q + (t - t % 2 ^ k) := by omega
    have hq0 : f.binade * 1 ≤ f.binade * q := Nat.mul_le_mul_left _ (by omega)
    have ed : (f.binade * q + (t - t % 2 ^ k)) / f.binade = q := by
      rw [Nat.mul_add_div hB, Nat.div_eq_of_lt (by omega), Nat.add_zero]
    have et : tail f (r - t % 2 ^ k) = k := by
      unfold tail; rw [e1, ed]; omega
    unfold upF
    rw [if_neg (by omega), et, e1]
    have hd := Nat.div_add_mod t (2 ^ k)
    have hlt : t / 2 ^ k < c := (Nat.div_lt_iff_lt_mul (Nat.two_pow_pos k)).2 (by rw [Nat.mul_comm]; omega)
    have hs2 : 2 ^ k * (t / 2 ^ k + 1) ≤ 2 ^ k * c := Nat.mul_le_mul_left _ hlt
    rw [Nat.mul_succ] at hs2
    generalize 2 ^ k * (t / 2 ^ k) = z at *
    have e3 : t - t % 2 ^ k + 2 ^ k ≤ f.binade := by omega
    rw [Nat.add_assoc, mval_at (by omega) e3, mval_at (by omega) (by omega), u, ← Nat.add_assoc, Nat.add_mul]
    refine ⟨rfl, ?_⟩
    have h3 : f.binade * (q + 1) ≤ f.infRung := by rw [g.inf_eq, Nat.mul_comm]; exact Nat.mul_le_mul_right _ (by omega)
    rw [Nat.mul_succ] at h3
    omega

theorem oddF_is {f : Format} (g : Good f) (r : Nat) (h : r / f.binade < bias f + f.fractionBits) : oddF f (wholeF f r).1 = decide (mval f r / unit f % 2 = 1) := by
  have hb := g.bias_pos
  have hB := binade_pos f
  cases kind_of g r with
  | great h' d w => omega
  | small h' l m e w =>
    rw [w, Nat.div_eq_of_lt l]
    unfold oddF
    rw [Nat.zero_div, if_pos (by omega)]
    rfl
  | mid q t k hq hk hk' hs hr ht ex u b mt w =>
    obtain ⟨c, hc, hc0⟩ := b
    rw [w, ex, u, (cut_mid hc).1]
    simp only
    have hmle := Nat.mod_le t (2 ^ k)
    have e1 : r - t % 2 ^ k = f.binade * q + (t - t % 2 ^ k) := by omega
    have ed : (f.binade * q + (t - t % 2 ^ k)) / f.binade = q := by
      rw [Nat.mul_add_div hB, Nat.div_eq_of_lt (by omega), Nat.add_zero]
    have em : (f.binade * q + (t - t % 2 ^ k)) % f.binade = t - t % 2 ^ k := by
      rw [Nat.mul_add_mod, Nat.mod_eq_of_lt (by omega)]
    have et : tail f (f.binade * q + (t - t % 2 ^ k)) = k := by
      unfold tail; rw [ed]; omega
    unfold oddF
    rw [e1, ed, em, et, if_neg (by omega)]
    have hp := Nat.two_pow_pos k
    have e4 : (f.binade + (t - t % 2 ^ k)) / 2 ^ k = (f.binade + t) / 2 ^ k := by
      rw [hc, Nat.mul_add_div hp, Nat.mul_add_div hp]
      congr 1
      have hd := Nat.div_add_mod t (2 ^ k)
      have : t - t % 2 ^ k = 2 ^ k * (t / 2 ^ k) := by omega
      rw [this, Nat.mul_div_cancel_left _ hp]
    rw [e4]

theorem great_exact {f : Format} (g : Good f) {r : Nat} (h : bias f + f.fractionBits ≤ r / f.binade) : wholeF f r = (r, true, false, false) := by unfold wholeF; rw [if_pos h]

theorem goesF_is {f : Format} (g : Good f) (way : Toward) (s : Bool) (r : Nat) : goesF f way s r = goes way s (unit f) (mval f r / unit f) (mval f r % unit f) := by
  have hu := unit_pos f
  cases way with
  | up => simp only [goesF, goes, wholeF_exact g, bne, Bool.beq_eq_decide_eq]
  | down => simp only [goesF, goes, wholeF_exact g, bne, Bool.beq_eq_decide_eq]
  | zero => rfl
  | even =>
    simp only [goesF, goes, wholeF_more g, wholeF_half g, Bool.beq_eq_decide_eq]
    rcases Nat.lt_or_ge (r / f.binade) (bias f + f.fractionBits) with c | c
    · rw [oddF_is g r c]
    · have hx := wholeF_half g r
      rw [great_exact g c] at hx
      simp only at hx
      rw [← hx]
      simp

/-- The explicit rounding is the model's. -/
theorem roundF_worth {f : Format} (g : Good f) (way : Toward) (s : Bool) (r : Nat) : mval f (roundF f way s r) = cutS way s (mval f r) (points f) * unit f := by
  unfold roundF cutS
  rw [← unit_pow, goesF_is g]
  have h1 := wholeF_worth g r
  cases c : goes way s (unit f) (mval f r / unit f) (mval f r % unit f)
  · rw [if_neg (by decide), h1]; simp
  · rw [if_pos rfl, (upF_worth g r ?_).1, h1]
    · simp [Nat.add_mul]
    · rcases Nat.lt_or_ge (r / f.binade) (bias f + f.fractionBits) with d | d
      · exact d
      · exfalso
        have hu := unit_pos f
        have h0 : mval f r % unit f = 0 := by
          have := wholeF_exact g r
          rw [great_exact g d] at this
          exact of_decide_eq_true this.symm
        rw [h0] at c
        cases way <;> simp [goes] at c
        omega
theorem roundF_le {f : Format} (g : Good f) (way : Toward) (s : Bool) {r : Nat} (h : r ≤ f.infRung) : roundF f way s r ≤ f.infRung := by
  have hw : (wholeF f r).1 ≤ r := by
    rcases Nat.lt_or_ge r (wholeF f r).1 with c | c
    · have h1 := mval_lt f c
      rw [wholeF_worth g] at h1
      have := Nat.div_mul_le_self (mval f r) (unit f)
      omega
    · exact c
  unfold roundF
  split
  · rename_i c
    rcases Nat.lt_or_ge (r / f.binade) (bias f + f.fractionBits) with d | d
    · exact (upF_worth g r d).2
    · exfalso
      cases way <;> simp [goesF, great_exact g d] at c
  · omega

theorem points_place {f : Format} (g : Good f) : (f.leastPlace + (points f : Int)) = 0 := by
  rw [g.lp]; unfold points; have := g.bias_pos; omega

theorem rung_round {f : Format} (g : Good f) (way : Toward) (s : Bool) {r : Nat} (h : r ≤ f.infRung) : rungOf f (cutS way s (mval f r) (points f)) 0 = roundF f way s r := by
  have h1 := roundF_worth g way s r
  have h2 := rung_mval f (roundF_le g way s h)
  rw [h1, unit_pow, rung_scale, points_place g] at h2
  exact h2

/-- What is whole is whole. -/
theorem whole_of_dvd {f : Format} (g : Good f) {r : Nat} (h : unit f ∣ mval f r) : wholeF f r = (r, true, false, false) := by
  have hu := unit_pos f
  have h0 := Nat.mod_eq_zero_of_dvd h
  have e1 := wholeF_exact g r
  have e2 := wholeF_more g r
  have e3 := wholeF_half g r
  have e4 := wholeF_worth g r
  rw [Nat.div_mul_cancel h] at e4
  have e5 := mval_inj f e4
  rw [h0] at e1 e2 e3
  have e2' : (wholeF f r).2.2.1 = false := by rw [e2]; simp
  have e3' : (wholeF f r).2.2.2 = false := by rw [e3]; simp; omega
  have e1' : (wholeF f r).2.1 = true := by rw [e1]; simp
  exact Prod.ext e5 (Prod.ext e1' (Prod.ext e2' e3'))
theorem round_of_dvd {f : Format} (g : Good f) (way : Toward) (s : Bool) {r : Nat} (h : unit f ∣ mval f r) : roundF f way s r = r := by
  unfold roundF goesF
  rw [whole_of_dvd g h]
  cases way <;> simp
theorem round_dvd {f : Format} (g : Good f) (way : Toward) (s : Bool) (r : Nat) : unit f ∣ mval f (roundF f way s r) := by
  rw [roundF_worth g]; exact Nat.dvd_mul_left ..
theorem round_round {f : Format} (g : Good f) (way way' : Toward) (s s' : Bool) (r : Nat) : roundF f way' s' (roundF f way s r) = roundF f way s r :=
  round_of_dvd g _ _ (round_dvd g _ _ _)
theorem whole_le {f : Format} (g : Good f) (r : Nat) : (wholeF f r).1 ≤ r := by
  rcases Nat.lt_or_ge r (wholeF f r).1 with c | c
  · have h1 := mval_lt f c
    rw [wholeF_worth g] at h1
    have := Nat.div_mul_le_self (mval f r) (unit f)
    omega
  · exact c
/-- Away from 0 it is not below. -/
theorem le_away {f : Format} (g : Good f) (r : Nat) : r ≤ roundF f .up false r := by
  rcases Nat.lt_or_ge (roundF f .up false r) r with c | c
  · exfalso
    have h1 := mval_lt f c
    rw [roundF_worth g] at h1
    unfold cutS goes at h1
    rw [← unit_pow] at h1
    have hd := Nat.div_add_mod (mval f r) (unit f)
    have hu := unit_pos f
    have hm := Nat.mod_lt (mval f r) hu
    rw [Nat.mul_comm] at hd
    by_cases h0 : mval f r % unit f = 0
    · rw [h0] at h1 hd; simp at h1; omega
    · have : (mval f r % unit f != 0) = true := by simp [h0]
      rw [this] at h1
      simp [Nat.add_mul] at h1
      omega
  · exact c
theorem round_lt (way : Toward) (s : Bool) {r : Nat} (h : r < single.infRung) : roundF single way s r < single.infRung := by
  have h2 := roundF_le good_single way s (Nat.le_of_lt h)
  rcases Nat.lt_or_ge (roundF single way s r) single.infRung with c | c
  · exact c
  · exfalso
    have : roundF single way s r = single.infRung := by omega
    unfold roundF at this
    split at this
    · rename_i c1
      rcases Nat.lt_or_ge (r / single.binade) (bias single + single.fractionBits) with d | d
      · have h5 := (upF_worth good_single r d).1
        rw [this] at h5
        have h6 := wholeF_worth good_single r
        have h7 := Nat.div_mul_le_self (mval single r) (unit single)
        have h8 : r < 150 * single.binade := (Nat.div_lt_iff_lt_mul (binade_pos _)).1 (show r / single.binade < 150 from d)
        have h9 := mval_lt single h8
        have h10 : mval single (150 * single.binade) + unit single < mval single single.infRung := by decide +kernel
        omega
      · cases way <;> simp [goesF, great_exact good_single d] at c1
    · have := whole_le good_single r
      omega
/-- The rounding of 64 bits of what was made of 32 bits. -/
theorem round_prom (way : Toward) (s : Bool) {r : Nat} (h : r < single.infRung) : rungOf double (cutS way s (mval double (prom r)) (points double)) 0 = prom (roundF single way s r) := by
  obtain ⟨a, b⟩ := prom_worth h
  have e : points double = points single + gap := by decide
  rw [b, e, cutS_scale]
  have h1 := roundF_worth good_single way s r
  have h3 := round_lt way s h
  unfold prom
  rw [if_pos h3, h1, unit_pow, rung_scale, points_place good_single]
end Go.Proofs.YtpeckiaimellmaaDoor.Flo
/-
  Square roots, on rungs. No program is named here.
-/
namespace Go.Proofs.YtpeckiaimellmaaDoor.Flo
open Ieee
set_option linter.unusedVariables false

theorem rootFrom_is (n todo root : Nat) (h1 : root * root ≤ n) (h2 : n < (root + 2 ^ todo) * (root + 2 ^ todo)) :
    Datum.rootFrom n todo root * Datum.rootFrom n todo root ≤ n ∧ n < (Datum.rootFrom n todo root + 1) * (Datum.rootFrom n todo root + 1) := by
  induction todo generalizing root with
  | zero => exact ⟨h1, by simpa [Datum.rootFrom] using h2⟩
  | succ k ih =>
    unfold Datum.rootFrom
    simp only [Nat.shiftLeft_eq, Nat.one_mul]
    have e : root + 2 ^ (k + 1) = root + 2 ^ k + 2 ^ k := by rw [Nat.pow_succ]; omega
    split
    · rename_i c
      exact ih _ c (by rw [← e]; exact h2)
    · rename_i c
      exact ih _ h1 (by omega)

/-- The whole root. -/
def isq (n : Nat) : Nat := Datum.rootFrom n (n.log2 / 2 + 1) 0
theorem isq_is (n : Nat) : isq n * isq n ≤ n ∧ n < (isq n + 1) * (isq n + 1) := by
  refine rootFrom_is n _ 0 (by omega) ?_
  rw [Nat.zero_add, ← Nat.pow_add]
  exact Nat.lt_of_lt_of_le Nat.lt_log2_self (Nat.pow_le_pow_right (by decide) (by omega))
theorem isq_mono {a b : Nat} (h : a ≤ b) : isq a ≤ isq b := by
  rcases Nat.lt_or_ge (isq b) (isq a) with c | c
  · have := Nat.mul_le_mul c c
    have h1 := (isq_is a).1
    have h2 := (isq_is b).2
    simp only [Nat.succ_eq_add_one] at this
    omega
  · exact c
/-- The root and the digit that tells of a rest. -/
def stick (n : Nat) : Nat := 2 * isq n + (isq n * isq n != n).toNat
theorem stick_mono {a b : Nat} (h : a ≤ b) : stick a ≤ stick b := by
  have hm := isq_mono h
  unfold stick
  rcases Nat.lt_or_ge (isq a) (isq b) with c | c
  · have := Bool.toNat_le (isq a * isq a != a)
    omega
  · have e : isq a = isq b := by omega
    have h1 := (isq_is a).1
    rw [e] at h1 ⊢
    by_cases c2 : isq b * isq b = a
    · simp [c2]
    · have : isq b * isq b ≠ b := by omega
      have t1 : (isq b * isq b != b) = true := by simp [this]
      have := Bool.toNat_le (isq b * isq b != a)
      rw [t1]
      simp only [Bool.toNat_true]
      omega

/-- How many digits are put behind. -/
def extra (d m : Nat) (i : Int) : Nat := (2 * d - m.log2) + ((i - ((2 * d - m.log2 : Nat) : Int)) % 2).toNat
def rootM (d m : Nat) (i : Int) : Nat := stick (m * 2 ^ extra d m i)
def rootP (d m : Nat) (i : Int) : Int := (i - extra d m i) / 2 - 1

theorem root_number (d m : Nat) (i : Int) (h : m ≠ 0) : Datum.root d (.number false m i) = some (.number false (rootM d m i) (rootP d m i)) := by
  unfold Datum.root
  simp only [if_neg h]
  rw [if_neg (by decide)]
  simp only [Nat.shiftLeft_eq]
  rfl

theorem extra_even (d m : Nat) (i : Int) : (i - extra d m i) % 2 = 0 := by
  unfold extra
  omega

/-- The digits of a root. -/
theorem root_size {d m : Nat} {i : Int} (h0 : m ≠ 0) (hl : m.log2 ≤ 2 * d) : 2 ^ (2 * d) ≤ m * 2 ^ extra d m i ∧ m * 2 ^ extra d m i < 2 ^ (2 * d + 2) := by
  have h1 := Nat.log2_self_le h0
  have h2 := Nat.lt_log2_self (n := m)
  have hx : 2 * d - m.log2 ≤ extra d m i ∧ extra d m i ≤ 2 * d - m.log2 + 1 := by unfold extra; omega
  constructor
  · refine Nat.le_trans ?_ (Nat.mul_le_mul_right _ h1)
    rw [← Nat.pow_add]
    exact Nat.pow_le_pow_right (by decide) (by omega)
  · refine Nat.lt_of_lt_of_le (Nat.mul_lt_mul_of_pos_right h2 (Nat.two_pow_pos _)) ?_
    rw [← Nat.pow_add]
    exact Nat.pow_le_pow_right (by decide) (by omega)

theorem stick_size {d n : Nat} (h1 : 2 ^ (2 * d) ≤ n) (h2 : n < 2 ^ (2 * d + 2)) : 2 ^ (d + 1) ≤ stick n ∧ stick n < 2 ^ (d + 2) := by
  obtain ⟨a, b⟩ := isq_is n
  have e1 : 2 ^ (2 * d) = 2 ^ d * 2 ^ d := by rw [← Nat.pow_add]; congr 1; omega
  have e2 : 2 ^ (2 * d + 2) = 2 ^ (d + 1) * 2 ^ (d + 1) := by rw [← Nat.pow_add]; congr 1; omega
  have h3 : 2 ^ d ≤ isq n := by
    rcases Nat.lt_or_ge (isq n) (2 ^ d) with c | c
    · have := Nat.mul_le_mul c c
      simp only [Nat.succ_eq_add_one] at this
      omega
    · exact c
  have h4 : isq n < 2 ^ (d + 1) := by
    rcases Nat.lt_or_ge (isq n) (2 ^ (d + 1)) with c | c
    · exact c
    · have := Nat.mul_le_mul c c
      omega
  unfold stick
  have hb := Bool.toNat_le (isq n * isq n != n)
  have p1 : 2 ^ (d + 1) = 2 * 2 ^ d := by rw [Nat.pow_succ, Nat.mul_comm]
  have p2 : 2 ^ (d + 2) = 2 * 2 ^ (d + 1) := by rw [Nat.pow_succ 2 (d + 1), Nat.mul_comm]
  omega

/-- Roots rise. -/
theorem root_rises (f : Format) {d m n : Nat} {i j : Int} {a b : Nat} (hm0 : m ≠ 0) (hn0 : n ≠ 0) (hm : m.log2 ≤ 2 * d) (hn : n.log2 ≤ 2 * d) (hp : i - a = j - b) (h : m * 2 ^ a ≤ n * 2 ^ b) :
    rungOf f (rootM d m i) (rootP d m i) ≤ rungOf f (rootM d n j) (rootP d n j) := by
  obtain ⟨l1, u1⟩ := root_size (i := i) hm0 hm
  obtain ⟨l2, u2⟩ := root_size (i := j) hn0 hn
  have ev1 := extra_even d m i
  have ev2 := extra_even d n j
  unfold rootM rootP
  -- both, at one place
  have key : ∀ c : Nat, (c : Int) = a + extra d n j + extra d m i → m * 2 ^ extra d m i * 2 ^ (a + extra d n j) ≤ n * 2 ^ extra d n j * 2 ^ (b + extra d m i) := fun c hc => by
    have e1 : m * 2 ^ extra d m i * 2 ^ (a + extra d n j) = m * 2 ^ a * 2 ^ (extra d m i + extra d n j) := by
      rw [Nat.mul_assoc, Nat.mul_assoc, ← Nat.pow_add, ← Nat.pow_add]; congr 2; omega
    have e2 : n * 2 ^ extra d n j * 2 ^ (b + extra d m i) = n * 2 ^ b * 2 ^ (extra d m i + extra d n j) := by
      rw [Nat.mul_assoc, Nat.mul_assoc, ← Nat.pow_add, ← Nat.pow_add]; congr 2; omega
    rw [e1, e2]
    exact Nat.mul_le_mul_right _ h
  have key := key (a + extra d n j + extra d m i) (by omega)
  generalize extra d m i = x at *
  generalize extra d n j = y at *
  rcases Int.lt_trichotomy ((i - x) / 2) ((j - y) / 2) with c | c | c
  · -- the lesser one is below a power of two that the greater one reaches
    obtain ⟨_, s1⟩ := stick_size l1 u1
    obtain ⟨s2, _⟩ := stick_size l2 u2
    have hle : stick (m * 2 ^ x) * 2 ^ 0 ≤ stick (n * 2 ^ y) * 2 ^ (((j - y) / 2 - (i - x) / 2).toNat) := by
      have p2 : 2 ^ (d + 2) = 2 ^ (d + 1) * 2 ^ 1 := by rw [← Nat.pow_add]
      have : 2 ^ (d + 1) * 2 ^ 1 ≤ stick (n * 2 ^ y) * 2 ^ (((j - y) / 2 - (i - x) / 2).toNat) :=
        Nat.mul_le_mul s2 (Nat.pow_le_pow_right (by decide) (by omega))
      omega
    exact rung_mono f (by omega) hle
  · have hxy : i - x = j - y := by omega
    have h1 : m * 2 ^ x ≤ n * 2 ^ y := by
      have e : a + y = b + x := by omega
      rw [e] at key
      exact Nat.le_of_mul_le_mul_right key (Nat.two_pow_pos _)
    rw [c]
    exact rung_mono_at f _ (stick_mono h1)
  · exfalso
    have h1 : n * 2 ^ y * 2 ^ (b + x) < 2 ^ (2 * d + 2) * 2 ^ (b + x) := Nat.mul_lt_mul_of_pos_right u2 (Nat.two_pow_pos _)
    have h2 : 2 ^ (2 * d) * 2 ^ (a + y) ≤ m * 2 ^ x * 2 ^ (a + y) := Nat.mul_le_mul_right _ l1
    have h3 : 2 ^ (2 * d + 2) * 2 ^ (b + x) ≤ 2 ^ (2 * d) * 2 ^ (a + y) := by
      rw [← Nat.pow_add, ← Nat.pow_add]
      exact Nat.pow_le_pow_right (by decide) (by omega)
    omega

/-- The rung of the root of a rung that is above 0. -/
def sqR (r : Nat) : Nat :=
  if r = 0 then 0 else if r < double.infRung then
    (match double.read r with | .number _ m i => rungOf double (rootM 54 m i) (rootP 54 m i) | _ => 0) else double.infRung

theorem rung_self {f : Format} {r : Nat} (h : r < f.signWeight) : rung f r = r := Nat.mod_eq_of_lt h
theorem neg_self {f : Format} {r : Nat} (h : r < f.signWeight) : neg f r = false := by unfold neg; rw [Nat.div_eq_of_lt h]; rfl

theorem sqR_at {r m k : Nat} (h0 : r ≠ 0) (h : r < double.infRung) (hr : ∀ x : Nat, rung double x = r → double.read x = .number (neg double x) m (double.leastPlace + k)) :
    sqR r = rungOf double (rootM 54 m (double.leastPlace + k)) (rootP 54 m (double.leastPlace + k)) := by
  have hlt := inf_lt_sw double
  unfold sqR
  rw [if_neg h0, if_pos h, hr r (rung_self (by omega))]

theorem sqR_le (r : Nat) : sqR r ≤ double.infRung := by
  unfold sqR
  split
  · exact Nat.zero_le _
  · split
    · split
      · exact rung_le_inf ..
      · exact Nat.zero_le _
    · exact Nat.le_refl _

theorem mag_facts {r m k : Nat} (h0 : r ≠ 0) (e : mval double r = m * 2 ^ k) (hm : m < 2 ^ (double.fractionBits + 1)) : m ≠ 0 ∧ m.log2 ≤ 2 * 54 := by
  have h : m ≠ 0 := by
    intro c
    rw [c, Nat.zero_mul] at e
    exact h0 (mval_inj double (e.trans (mval_zero double).symm))
  refine ⟨h, ?_⟩
  have : m.log2 < 53 := (Nat.log2_lt h).2 hm
  omega

theorem sqR_mono {r s : Nat} (h : r ≤ s) : sqR r ≤ sqR s := by
  by_cases h0 : r = 0
  · rw [h0]; unfold sqR; rw [if_pos rfl]; exact Nat.zero_le _
  · by_cases hs : s < double.infRung
    · obtain ⟨m, k, hm, _, e, hr⟩ := parts_of good_double (show r < double.infRung by omega)
      obtain ⟨n, l, hn, _, e', hr'⟩ := parts_of good_double hs
      rw [sqR_at h0 (by omega) hr, sqR_at (by omega) hs hr']
      obtain ⟨m0, ml⟩ := mag_facts h0 e hm
      obtain ⟨n0, nl⟩ := mag_facts (show s ≠ 0 by omega) e' hn
      refine root_rises double m0 n0 ml nl (a := k) (b := l) (by omega) ?_
      rw [← e, ← e']
      rcases Nat.lt_or_ge r s with c | c
      · exact Nat.le_of_lt (mval_lt _ c)
      · rw [show r = s by omega]; exact Nat.le_refl _
    · have : sqR s = double.infRung := by
        have := good_double.binade_lt_inf
        have hB := binade_pos double
        unfold sqR; rw [if_neg (by omega), if_neg hs]
      rw [this]
      exact sqR_le r

theorem sqR_zero : sqR 0 = 0 := by unfold sqR; rw [if_pos rfl]
theorem rungOf_zero (f : Format) (p : Int) : rungOf f 0 p = 0 := by unfold rungOf; rw [if_pos rfl]
/-- What the model's root answers. -/
theorem sqrt_word {x : Nat} (hx : x < 2 ^ 64) (h : rung double x ≤ double.infRung) :
    double.sqrt x = if neg double x = true ∧ rung double x ≠ 0 then none else some (double.word (neg double x) (sqR (rung double x))) := by
  unfold Format.sqrt
  rcases Nat.lt_or_ge (rung double x) double.infRung with c | c
  · obtain ⟨m, k, hm, _, e, hr⟩ := parts_of good_double c
    have hrx := hr x rfl
    rw [hrx]
    by_cases h0 : rung double x = 0
    · have m0 : m = 0 := by
        rw [h0, mval_zero] at e
        rcases Nat.mul_eq_zero.1 e.symm with z | z
        · exact z
        · have := Nat.two_pow_pos k; omega
      rw [if_neg (by rintro ⟨_, z⟩; exact z h0), m0, h0]
      simp only [Datum.root, if_pos, Option.map_some]
      rw [write_number, rungOf_zero, sqR_zero]
    · obtain ⟨m0, ml⟩ := mag_facts h0 e hm
      cases hn : neg double x
      · rw [if_neg (by simp)]
        show Option.map _ (Datum.root 54 _) = _
        rw [root_number _ _ _ m0, sqR_at h0 c hr]
        simp only [Option.map_some]
        rw [write_number]
      · rw [if_pos ⟨rfl, h0⟩]
        unfold Datum.root
        simp only [if_neg m0, if_pos, Option.map_none]
  · have ei : rung double x = double.infRung := by omega
    rw [read_inf good_double ei, ei]
    have h3 := good_double.binade_lt_inf
    have hB := binade_pos double
    have es : sqR double.infRung = double.infRung := by unfold sqR; rw [if_neg (by omega), if_neg (Nat.lt_irrefl _)]
    rw [es]
    cases hn : neg double x
    · rw [if_neg (by simp)]; rfl
    · rw [if_pos ⟨rfl, by omega⟩]; rfl

/-- The root of 32 bits, by way of 64. -/
def sqS (r : Nat) : Nat := dem (sqR (prom r))
theorem prom_mono {r s : Nat} (h : r ≤ s) (hs : s ≤ single.infRung) : prom r ≤ prom s := by
  rcases Nat.lt_or_ge r s with c | c
  · exact Nat.le_of_lt (prom_lt c hs)
  · rw [show r = s by omega]; exact Nat.le_refl _
theorem sqS_mono {r s : Nat} (h : r ≤ s) (hs : s ≤ single.infRung) : sqS r ≤ sqS s := dem_mono (sqR_mono (prom_mono h hs))
theorem sqS_le (r : Nat) : sqS r ≤ single.infRung := dem_le _
theorem great_root : dem (sqR (prom 2139095039)) = 1602224127 := by decide +kernel
theorem sqS_lt {r : Nat} (h : r < single.infRung) : sqS r < single.infRung := by
  have h1 : r ≤ 2139095039 := by have := inf_single; omega
  have h2 : sqS r ≤ sqS 2139095039 := sqS_mono h1 (by decide)
  have h3 : sqS 2139095039 = 1602224127 := great_root
  have := inf_single
  omega
theorem sqR_lt {r : Nat} (h : r < double.infRung) : sqR r < double.infRung := by
  have h1 : r ≤ 9218868437227405311 := by have := inf_double; omega
  have h2 : sqR r ≤ sqR 9218868437227405311 := sqR_mono h1
  have h3 : sqR 9218868437227405311 = 6913025428013711359 := by decide +kernel
  have := inf_double
  omega
end Go.Proofs.YtpeckiaimellmaaDoor.Flo
