/-
  Plain mathematics of binary floating point, over the model's words: cutting, rounding to the nearest, rungs and what they are worth, the order. No program is named here.
-/
import Derived.Laws.FloatBits
namespace Go.Proofs.YtfahogbiekmdfabDoor.Flo
open Ieee
set_option linter.unusedVariables false

/-! cut -/

def goes (way : Toward) (neg : Bool) (gap low rest : Nat) : Bool :=
  match way with
  | .even => decide (gap < 2 * rest) || (gap == 2 * rest && low % 2 == 1)
  | .down => neg && rest != 0
  | .up => !neg && rest != 0
  | .zero => false

def cutS (way : Toward) (neg : Bool) (n drop : Nat) : Nat :=
  n / 2 ^ drop + (goes way neg (2 ^ drop) (n / 2 ^ drop) (n % 2 ^ drop)).toNat

theorem cut_eq (way : Toward) (neg : Bool) (n drop : Nat) : way.cut neg n drop = cutS way neg n drop := by
  have h : way.cut neg n drop = cutS way neg n (min drop (n.log2 + 2)) := by
    unfold Toward.cut cutS goes
    simp only [Nat.shiftLeft_eq, Nat.one_mul]
    cases way <;> rfl
  rw [h]
  by_cases c : drop ≤ n.log2 + 2
  · rw [Nat.min_eq_left c]
  · rw [Nat.min_eq_right (by omega)]
    have h1 : n < 2 ^ (n.log2 + 1) := Nat.lt_log2_self
    have h2 : 2 ^ (n.log2 + 2) = 2 * 2 ^ (n.log2 + 1) := by rw [Nat.pow_succ 2 (n.log2 + 1), Nat.mul_comm]
    have h3 : 2 ^ (n.log2 + 2) ≤ 2 ^ drop := Nat.pow_le_pow_right (by decide) (by omega)
    unfold cutS
    rw [Nat.div_eq_of_lt (show n < 2 ^ (n.log2 + 2) by omega), Nat.div_eq_of_lt (show n < 2 ^ drop by omega), Nat.mod_eq_of_lt (show n < 2 ^ (n.log2 + 2) by omega), Nat.mod_eq_of_lt (show n < 2 ^ drop by omega)]
    congr 2
    unfold goes
    cases way <;> simp <;> omega

theorem cutS_scale (way : Toward) (neg : Bool) (n drop c : Nat) : cutS way neg (n * 2 ^ c) (drop + c) = cutS way neg n drop := by
  have hp := Nat.two_pow_pos c
  unfold cutS
  rw [Nat.pow_add, Nat.mul_div_mul_right _ _ hp, Nat.mul_mod_mul_right]
  congr 2
  unfold goes
  have e1 : (2 ^ drop * 2 ^ c < 2 * (n % 2 ^ drop * 2 ^ c)) ↔ (2 ^ drop < 2 * (n % 2 ^ drop)) := by
    rw [← Nat.mul_assoc]; exact Nat.mul_lt_mul_right hp
  have e2 : (2 ^ drop * 2 ^ c = 2 * (n % 2 ^ drop * 2 ^ c)) ↔ (2 ^ drop = 2 * (n % 2 ^ drop)) := by
    rw [← Nat.mul_assoc]; exact Nat.mul_left_inj (by omega)
  have e3 : (n % 2 ^ drop * 2 ^ c = 0) ↔ (n % 2 ^ drop = 0) := by
    rw [Nat.mul_eq_zero]; constructor
    · rintro (h | h) <;> omega
    · exact .inl
  cases way
  · simp only [Bool.beq_eq_decide_eq, e1, e2]
  · simp only [bne, Bool.beq_eq_decide_eq, e3]
  · simp only [bne, Bool.beq_eq_decide_eq, e3]
  · rfl

theorem cutS_mono (n m drop : Nat) (h : n ≤ m) : cutS .even false n drop ≤ cutS .even false m drop := by
  have hp := Nat.two_pow_pos drop
  unfold cutS
  have hd : n / 2 ^ drop ≤ m / 2 ^ drop := Nat.div_le_div_right h
  rcases Nat.lt_or_ge (n / 2 ^ drop) (m / 2 ^ drop) with c | c
  · have := Bool.toNat_le (goes .even false (2 ^ drop) (n / 2 ^ drop) (n % 2 ^ drop))
    omega
  · have e : n / 2 ^ drop = m / 2 ^ drop := by omega
    have hr : n % 2 ^ drop ≤ m % 2 ^ drop := by
      have h1 := Nat.div_add_mod n (2 ^ drop)
      have h2 := Nat.div_add_mod m (2 ^ drop)
      rw [e] at h1
      omega
    rw [e]
    have : (goes .even false (2 ^ drop) (m / 2 ^ drop) (n % 2 ^ drop)).toNat ≤ (goes .even false (2 ^ drop) (m / 2 ^ drop) (m % 2 ^ drop)).toNat := by
      cases c1 : goes .even false (2 ^ drop) (m / 2 ^ drop) (n % 2 ^ drop)
      · simp
      · have : goes .even false (2 ^ drop) (m / 2 ^ drop) (m % 2 ^ drop) = true := by
          simp only [goes, Bool.or_eq_true, decide_eq_true_eq, Bool.and_eq_true, beq_iff_eq] at c1 ⊢
          omega
        rw [this]
        exact Nat.le_refl _
    omega

theorem cutS_neg (a b : Bool) (n drop : Nat) : cutS .even a n drop = cutS .even b n drop := rfl
theorem cutS_zero (way : Toward) (neg : Bool) (n : Nat) : cutS way neg n 0 = n := by
  unfold cutS goes
  simp only [Nat.pow_zero, Nat.div_one, Nat.mod_one]
  cases way <;> simp

/-! to the nearest -/

/-- The rung that is nearest to 'm * 2 ^ p'. -/
def rungOf (f : Format) (m : Nat) (p : Int) : Nat :=
  if m = 0 then 0 else
  let last := max (p + m.log2 - f.fractionBits) f.leastPlace
  min ((last - f.leastPlace).toNat * f.binade + cutS .even false (m * 2 ^ (p - last).toNat) (last - p).toNat) f.infRung

theorem nearest_eq (f : Format) (s : Bool) (m : Nat) (p : Int) : f.nearest s m p = f.word s (rungOf f m p) := by
  unfold Format.nearest rungOf
  split
  · rfl
  · simp only [cut_eq, Nat.shiftLeft_eq]
    rfl

theorem log2_scale (m k : Nat) (h : m ≠ 0) : (m * 2 ^ k).log2 = m.log2 + k := by
  induction k with
  | zero => simp
  | succ k ih =>
    rw [Nat.pow_succ, ← Nat.mul_assoc, Nat.mul_comm _ 2, Nat.log2_two_mul, ih]
    · rfl
    · have := Nat.two_pow_pos k
      intro e
      rw [Nat.mul_eq_zero] at e
      omega

theorem rung_scale (f : Format) (m k : Nat) (p : Int) : rungOf f (m * 2 ^ k) p = rungOf f m (p + k) := by
  by_cases h0 : m = 0
  · subst h0; simp [rungOf]
  have hk := Nat.two_pow_pos k
  have h1 : m * 2 ^ k ≠ 0 := by
    intro e; rw [Nat.mul_eq_zero] at e; omega
  unfold rungOf
  rw [if_neg h0, if_neg h1, log2_scale m k h0]
  have el : p + ((m.log2 + k : Nat) : Int) - f.fractionBits = p + k + m.log2 - f.fractionBits := by omega
  rw [el]
  simp only
  generalize max (p + k + m.log2 - f.fractionBits) f.leastPlace = last
  congr 2
  rcases Int.lt_or_le (p + k) last with c | c
  · rw [show (p - last).toNat = 0 by omega, show (p + k - last).toNat = 0 by omega, show (last - p).toNat = (last - (p + k)).toNat + k by omega]
    simp only [Nat.pow_zero, Nat.mul_one]
    exact cutS_scale _ _ _ _ _
  · rw [show (last - (p + k)).toNat = 0 by omega, cutS_zero]
    have e : m * 2 ^ k * 2 ^ (p - last).toNat = m * 2 ^ (p + k - last).toNat * 2 ^ (last - p).toNat := by
      rw [Nat.mul_assoc, Nat.mul_assoc, ← Nat.pow_add, ← Nat.pow_add]
      congr 2
      omega
    rw [e]
    have := cutS_scale .even false (m * 2 ^ (p + k - last).toNat) 0 (last - p).toNat
    rw [Nat.zero_add, cutS_zero] at this
    exact this

/-- The same number has the same rung. -/
theorem rung_same (f : Format) {m n : Nat} {p q : Int} {a b : Nat} (hp : p - a = q - b) (h : m * 2 ^ a = n * 2 ^ b) : rungOf f m p = rungOf f n q := by
  have e1 := rung_scale f m a (p - a)
  have e2 := rung_scale f n b (q - b)
  rw [show p - (a : Int) + a = p by omega] at e1
  rw [show q - (b : Int) + b = q by omega] at e2
  rw [← e1, ← e2, h, hp]

theorem log2_mono {m n : Nat} (h : m ≤ n) : m.log2 ≤ n.log2 := by
  by_cases h0 : m = 0
  · subst h0; simp
  · have : n ≠ 0 := by omega
    rw [Nat.le_log2 this]
    exact Nat.le_trans (Nat.log2_self_le h0) h

theorem rung_mono_at (f : Format) {m n : Nat} (p : Int) (h : m ≤ n) : rungOf f m p ≤ rungOf f n p := by
  by_cases h0 : m = 0
  · subst h0; simp [rungOf]
  have h1 : n ≠ 0 := by omega
  have hl := log2_mono h
  unfold rungOf
  rw [if_neg h0, if_neg h1]
  simp only
  have hle : max (p + m.log2 - f.fractionBits) f.leastPlace ≤ max (p + n.log2 - f.fractionBits) f.leastPlace := by omega
  rcases Int.lt_or_le (max (p + m.log2 - f.fractionBits) f.leastPlace) (max (p + n.log2 - f.fractionBits) f.leastPlace) with c | c
  · -- the lesser one keeps at most two binades' rungs, the greater one at least one
    have k1 : cutS .even false (m * 2 ^ (p - max (p + m.log2 - f.fractionBits) f.leastPlace).toNat) (max (p + m.log2 - f.fractionBits) f.leastPlace - p).toNat ≤ 2 * f.binade := by
      generalize hL : max (p + m.log2 - f.fractionBits) f.leastPlace = L at *
      have hm := Nat.lt_log2_self (n := m)
      have b1 : m * 2 ^ (p - L).toNat ≤ f.binade * 2 * 2 ^ (L - p).toNat := by
        unfold Format.binade
        rw [← Nat.pow_succ, ← Nat.pow_add]
        refine Nat.le_trans (Nat.mul_le_mul_right _ (Nat.le_of_lt hm)) ?_
        rw [← Nat.pow_add]
        exact Nat.pow_le_pow_right (by decide) (by omega)
      have := cutS_mono _ _ (L - p).toNat b1
      have e := cutS_scale .even false (f.binade * 2) 0 (L - p).toNat
      rw [Nat.zero_add, cutS_zero] at e
      omega
    have k2 : f.binade ≤ cutS .even false (n * 2 ^ (p - max (p + n.log2 - f.fractionBits) f.leastPlace).toNat) (max (p + n.log2 - f.fractionBits) f.leastPlace - p).toNat := by
      have hL : max (p + n.log2 - f.fractionBits) f.leastPlace = p + n.log2 - f.fractionBits := by omega
      rw [hL]
      have hn := Nat.log2_self_le h1
      have b1 : f.binade * 2 ^ (p + n.log2 - f.fractionBits - p).toNat ≤ n * 2 ^ (p - (p + n.log2 - f.fractionBits)).toNat := by
        refine Nat.le_trans ?_ (Nat.mul_le_mul_right _ hn)
        unfold Format.binade
        rw [← Nat.pow_add, ← Nat.pow_add]
        exact Nat.pow_le_pow_right (by decide) (by omega)
      have := cutS_mono _ _ (p + n.log2 - f.fractionBits - p).toNat b1
      have e := cutS_scale .even false f.binade 0 (p + n.log2 - f.fractionBits - p).toNat
      rw [Nat.zero_add, cutS_zero] at e
      omega
    have hL1 : f.leastPlace ≤ max (p + m.log2 - f.fractionBits) f.leastPlace := by omega
    generalize max (p + m.log2 - f.fractionBits) f.leastPlace = L at *
    generalize max (p + n.log2 - f.fractionBits) f.leastPlace = L' at *
    have k3 : (L - f.leastPlace).toNat * f.binade + f.binade ≤ (L' - f.leastPlace).toNat * f.binade := by
      rw [← Nat.succ_mul]
      exact Nat.mul_le_mul_right _ (by omega)
    omega
  · have e : max (p + n.log2 - f.fractionBits) f.leastPlace = max (p + m.log2 - f.fractionBits) f.leastPlace := by omega
    rw [e]
    generalize max (p + m.log2 - f.fractionBits) f.leastPlace = L at *
    have := cutS_mono _ _ (L - p).toNat (Nat.mul_le_mul_right (2 ^ (p - L).toNat) h)
    omega

theorem rung_mono (f : Format) {m n : Nat} {p q : Int} {a b : Nat} (hp : p - a = q - b) (h : m * 2 ^ a ≤ n * 2 ^ b) : rungOf f m p ≤ rungOf f n q := by
  have e1 := rung_scale f m a (p - a)
  have e2 := rung_scale f n b (q - b)
  rw [show p - (a : Int) + a = p by omega] at e1
  rw [show q - (b : Int) + b = q by omega] at e2
  rw [← e1, ← e2, hp]
  exact rung_mono_at f _ h

/-! what a rung is worth, in units of the least place -/

def mval (f : Format) (r : Nat) : Nat := if r < f.binade then r else (f.binade + r % f.binade) * 2 ^ (r / f.binade - 1)

theorem binade_pos (f : Format) : 0 < f.binade := Nat.two_pow_pos _

theorem mval_next (f : Format) (r : Nat) : mval f r < mval f (r + 1) := by
  have hB := binade_pos f
  have hd := Nat.div_add_mod r f.binade
  have hm := Nat.mod_lt r hB
  unfold mval
  by_cases c : r + 1 < f.binade
  · rw [if_pos (by omega), if_pos c]; omega
  · rw [if_neg c]
    by_cases c' : r < f.binade
    · have e : r + 1 = f.binade := by omega
      rw [if_pos c', e, Nat.mod_self, Nat.div_self hB]
      simp; omega
    · rw [if_neg c']
      generalize hq : r / f.binade = q at *
      generalize ht : r % f.binade = t at *
      have hq1 : 1 ≤ q := by rw [← hq]; exact (Nat.le_div_iff_mul_le hB).2 (by omega)
      have hp := Nat.two_pow_pos (q - 1)
      by_cases c2 : t + 1 < f.binade
      · have e : r + 1 = t + 1 + f.binade * q := by omega
        rw [e, Nat.add_mul_mod_self_left, Nat.mod_eq_of_lt c2, Nat.add_mul_div_left _ _ hB, Nat.div_eq_of_lt c2, Nat.zero_add]
        exact Nat.mul_lt_mul_of_pos_right (by omega) hp
      · have e : r + 1 = f.binade * (q + 1) := by rw [Nat.mul_succ]; omega
        rw [e, Nat.mul_mod_right, Nat.mul_div_cancel_left _ hB]
        have e2 : 2 ^ (q + 1 - 1) = 2 * 2 ^ (q - 1) := by
          rw [show q + 1 - 1 = (q - 1) + 1 by omega, Nat.pow_succ, Nat.mul_comm]
        rw [e2, Nat.add_zero, ← Nat.mul_assoc]
        exact Nat.mul_lt_mul_of_pos_right (by omega) hp

theorem mval_lt (f : Format) {r s : Nat} (h : r < s) : mval f r < mval f s := by
  induction s with
  | zero => omega
  | succ s ih =>
    rcases Nat.lt_or_ge r s with c | c
    · exact Nat.lt_trans (ih c) (mval_next f s)
    · rw [show r = s by omega]; exact mval_next f s
theorem mval_lt_iff (f : Format) {r s : Nat} : mval f r < mval f s ↔ r < s := by
  refine ⟨fun h => ?_, mval_lt f⟩
  rcases Nat.lt_or_ge r s with c | c
  · exact c
  · rcases Nat.lt_or_ge s r with d | d
    · have := mval_lt f d; omega
    · rw [show r = s by omega] at h; omega
theorem mval_inj (f : Format) {r s : Nat} (h : mval f r = mval f s) : r = s := by
  rcases Nat.lt_trichotomy r s with c | c | c
  · have := mval_lt f c; omega
  · exact c
  · have := mval_lt f c; omega
theorem mval_zero (f : Format) : mval f 0 = 0 := by unfold mval; rw [if_pos (binade_pos f)]

theorem binade_lt (f : Format) : f.binade < 2 ^ (f.fractionBits + 1) := Nat.pow_lt_pow_right (by decide) (by omega)

theorem log2_of {m k : Nat} (h1 : 2 ^ k ≤ m) (h2 : m < 2 ^ (k + 1)) : m.log2 = k := by
  have h0 : m ≠ 0 := by have := Nat.two_pow_pos k; omega
  exact (Nat.log2_eq_iff h0).2 ⟨h1, h2⟩

/-- A rung's own worth is nearest to it. -/
theorem rung_mval (f : Format) {r : Nat} (h : r ≤ f.infRung) : rungOf f (mval f r) f.leastPlace = r := by
  have hB := binade_pos f
  unfold mval
  split
  · rename_i c
    unfold rungOf
    split
    · omega
    · rename_i h0
      have hl : r.log2 < f.fractionBits := (Nat.log2_lt h0).2 c
      have e : max (f.leastPlace + r.log2 - f.fractionBits) f.leastPlace = f.leastPlace := by omega
      simp only [e, Int.sub_self, Int.toNat_zero, Nat.pow_zero, Nat.mul_one, cutS_zero, Nat.zero_mul, Nat.zero_add]
      omega
  · rename_i c
    have hd := Nat.div_add_mod r f.binade
    have hm := Nat.mod_lt r hB
    rw [rung_scale]
    generalize hq : r / f.binade = q at *
    generalize ht : r % f.binade = t at *
    have hq1 : 1 ≤ q := by rw [← hq]; exact (Nat.le_div_iff_mul_le hB).2 (by omega)
    have hl : (f.binade + t).log2 = f.fractionBits := log2_of (by unfold Format.binade; omega) (by rw [Nat.pow_succ]; unfold Format.binade at hm ⊢; omega)
    unfold rungOf
    rw [if_neg (by omega), hl]
    have e : max (f.leastPlace + ((q - 1 : Nat) : Int) + f.fractionBits - f.fractionBits) f.leastPlace = f.leastPlace + ((q - 1 : Nat) : Int) := by omega
    simp only [e, Int.sub_self, Int.toNat_zero, Nat.pow_zero, Nat.mul_one, cutS_zero]
    rw [show (f.leastPlace + ((q - 1 : Nat) : Int) - f.leastPlace).toNat = q - 1 by omega]
    have e2 : (q - 1) * f.binade + f.binade = f.binade * q := by
      rw [← Nat.succ_mul, show (q - 1).succ = q by omega, Nat.mul_comm]
    omega

/-- A number of few digits within the bounds is a rung's worth. -/
theorem rung_exact (f : Format) {m : Nat} {p : Int} (hm : m < 2 ^ (f.fractionBits + 1)) (hp : f.leastPlace ≤ p) (hb : p + m.log2 - f.fractionBits - f.leastPlace + 3 ≤ 2 ^ f.exponentBits) (he : 2 ≤ f.exponentBits) :
    rungOf f m p < f.infRung ∧ mval f (rungOf f m p) = m * 2 ^ (p - f.leastPlace).toNat := by
  have hB := binade_pos f
  have hE : (4 : Nat) ≤ 2 ^ f.exponentBits := Nat.pow_le_pow_right (n := 2) (by decide) he
  have hinf : ∀ q : Nat, q + 3 ≤ 2 ^ f.exponentBits → (q + 2) * f.binade ≤ f.infRung := fun q h => by
    unfold Format.infRung
    exact Nat.mul_le_mul_right _ (by omega)
  by_cases h0 : m = 0
  · subst h0
    have h1 := hinf 0 (by omega)
    rw [show rungOf f 0 p = 0 from rfl, mval_zero]
    refine ⟨by omega, by simp⟩
  have hl : m.log2 ≤ f.fractionBits := by
    have := (Nat.log2_lt h0).2 hm; omega
  unfold rungOf
  rw [if_neg h0]
  simp only
  generalize hL : max (p + m.log2 - f.fractionBits) f.leastPlace = L
  have hLp : L ≤ p := by omega
  rw [show (L - p).toNat = 0 by omega, cutS_zero]
  have hlow := Nat.log2_self_le h0
  have hhi := Nat.lt_log2_self (n := m)
  have k2 : m * 2 ^ (p - L).toNat < 2 * f.binade := by
    refine Nat.lt_of_lt_of_le (Nat.mul_lt_mul_of_pos_right hhi (Nat.two_pow_pos _)) ?_
    unfold Format.binade
    rw [← Nat.pow_add, Nat.mul_comm, ← Nat.pow_succ]
    exact Nat.pow_le_pow_right (by decide) (by omega)
  have hEi : ((2 ^ f.exponentBits : Nat) : Int) = 2 ^ f.exponentBits := by simp
  have hi := hinf (L - f.leastPlace).toNat (by omega)
  have hs : ((L - f.leastPlace).toNat + 2) * f.binade = (L - f.leastPlace).toNat * f.binade + 2 * f.binade := Nat.add_mul ..
  rw [Nat.min_eq_left (by omega)]
  refine ⟨by omega, ?_⟩
  have e : m * 2 ^ (p - f.leastPlace).toNat = m * 2 ^ (p - L).toNat * 2 ^ (L - f.leastPlace).toNat := by
    rw [Nat.mul_assoc, ← Nat.pow_add]
    congr 2
    omega
  rw [e]
  rcases Nat.eq_zero_or_pos (L - f.leastPlace).toNat with c | c
  · rw [c]
    generalize m * 2 ^ (p - L).toNat = k at *
    rw [Nat.zero_mul, Nat.zero_add, Nat.pow_zero, Nat.mul_one]
    unfold mval
    split
    · rfl
    · rename_i c2
      have : k = (k - f.binade) + f.binade * 1 := by omega
      rw [this, Nat.add_mul_mod_self_left, Nat.mod_eq_of_lt (by omega), Nat.add_mul_div_left _ _ hB, Nat.div_eq_of_lt (by omega)]
      simp; omega
  · have k1 : f.binade ≤ m * 2 ^ (p - L).toNat := by
      refine Nat.le_trans ?_ (Nat.mul_le_mul_right _ hlow)
      unfold Format.binade
      rw [← Nat.pow_add]
      exact Nat.pow_le_pow_right (by decide) (by omega)
    generalize m * 2 ^ (p - L).toNat = k at *
    generalize (L - f.leastPlace).toNat = q at *
    unfold mval
    have hge : ¬ (q * f.binade + k < f.binade) := by omega
    rw [if_neg hge]
    have : q * f.binade + k = (k - f.binade) + f.binade * (q + 1) := by rw [Nat.mul_succ, Nat.mul_comm]; omega
    rw [this, Nat.add_mul_mod_self_left, Nat.mod_eq_of_lt (by omega), Nat.add_mul_div_left _ _ hB, Nat.div_eq_of_lt (by omega)]
    rw [show f.binade + (k - f.binade) = k by omega, show 0 + (q + 1) - 1 = q by omega]
end Go.Proofs.YtfahogbiekmdfabDoor.Flo
