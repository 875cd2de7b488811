/-
  Plain mathematics of numbers of unlike lengths: digits, where they end, the number that they are; short forms. No program is named here.
-/
namespace Go.Proofs.Yteacjhmbamcegab.Leb

/-- The place of the first byte below 128, among the first 'm'. -/
def fin : List Int → Nat → Option Nat
  | _, 0 => none
  | [], _ + 1 => none
  | x :: xs, m + 1 => if x < 128 then some 0 else (fin xs m).map (· + 1)

/-- The number of the first 'k' digits, the lowest first. -/
def val : List Int → Nat → Int
  | _, 0 => 0
  | [], _ + 1 => 0
  | x :: xs, k + 1 => x % 128 + 128 * val xs k

/-- All are bytes. -/
def Bytes (l : List Int) : Prop := ∀ i : Nat, 0 ≤ l[i]?.getD 0 ∧ l[i]?.getD 0 ≤ 255

theorem pow7 (k : Nat) : (2 : Int) ^ (7 * k) = 128 ^ k := by
  rw [Int.pow_mul]; rfl

theorem pow128_pos (k : Nat) : (0 : Int) < 128 ^ k := Int.pow_pos (by decide)

theorem pow2_pos (k : Nat) : (0 : Int) < 2 ^ k := Int.pow_pos (by decide)

theorem fin_some {l : List Int} {m k : Nat} (h : fin l m = some k) :
    k < m ∧ k < l.length ∧ l[k]?.getD 0 < 128 ∧ ∀ i, i < k → 128 ≤ l[i]?.getD 0 := by
  induction l generalizing m k with
  | nil => cases m <;> simp [fin] at h
  | cons x xs ih =>
    cases m with
    | zero => simp [fin] at h
    | succ m =>
      unfold fin at h
      split at h
      · rename_i hx
        injection h with h; subst h
        refine ⟨by omega, by simp, by simpa using hx, ?_⟩
        intro i hi; omega
      · rename_i hx
        rw [Option.map_eq_some_iff] at h
        obtain ⟨j, hj, rfl⟩ := h
        obtain ⟨a, b, c, d⟩ := ih hj
        refine ⟨by omega, by simp; omega, by simpa using c, ?_⟩
        intro i hi
        cases i with
        | zero => simp; omega
        | succ i => simpa using d i (by omega)

theorem fin_of {l : List Int} {m k : Nat} (hm : k < m) (hl : k < l.length) (hk : l[k]?.getD 0 < 128) (h : ∀ i, i < k → 128 ≤ l[i]?.getD 0) :
    fin l m = some k := by
  induction l generalizing m k with
  | nil => simp at hl
  | cons x xs ih =>
    cases m with
    | zero => omega
    | succ m =>
      unfold fin
      cases k with
      | zero => rw [if_pos (by simpa using hk)]
      | succ k =>
        have h0 := h 0 (by omega)
        rw [if_neg (by simp at h0; omega)]
        rw [ih (k := k) (by omega) (by simp at hl; omega) (by simpa using hk) (fun i hi => by simpa using h (i + 1) (by omega))]
        rfl

theorem fin_none {l : List Int} {m k : Nat} (hk : k = m ∨ k = l.length) (h : ∀ i, i < k → 128 ≤ l[i]?.getD 0) (hm : k ≤ m) (hl : k ≤ l.length) : fin l m = none := by
  induction l generalizing m k with
  | nil => cases m <;> rfl
  | cons x xs ih =>
    cases m with
    | zero => rfl
    | succ m =>
      unfold fin
      have hk0 : 0 < k := by simp at hk; omega
      have h0 := h 0 hk0
      rw [if_neg (by simp at h0; omega)]
      rw [ih (k := k - 1) (by simp at hk; omega) (fun i hi => by simpa using h (i + 1) (by omega)) (by omega) (by simp at hl; omega)]
      rfl

theorem val_nonneg (l : List Int) (k : Nat) : 0 ≤ val l k := by
  induction l generalizing k with
  | nil => cases k <;> simp [val]
  | cons x xs ih =>
    cases k with
    | zero => simp [val]
    | succ k => have := ih k; unfold val; omega

theorem val_lt (l : List Int) (k : Nat) : val l k < 128 ^ k := by
  induction l generalizing k with
  | nil => cases k <;> simp [val]; exact pow128_pos _
  | cons x xs ih =>
    cases k with
    | zero => simp [val]
    | succ k => have := ih k; unfold val; rw [Int.pow_succ]; omega

theorem val_succ (l : List Int) (k : Nat) (h : k < l.length) : val l (k + 1) = val l k + l[k]?.getD 0 % 128 * 128 ^ k := by
  induction l generalizing k with
  | nil => simp at h
  | cons x xs ih =>
    cases k with
    | zero => cases xs <;> simp [val]
    | succ k =>
      have e := ih k (by simp at h; omega)
      show x % 128 + 128 * val xs (k + 1) = (x % 128 + 128 * val xs k) + (x :: xs)[k + 1]?.getD 0 % 128 * 128 ^ (k + 1)
      rw [e, Int.pow_succ]
      simp only [List.getElem?_cons_succ]
      rw [Int.mul_add, ← Int.add_assoc]
      congr 1
      rw [Int.mul_comm (128 ^ k) 128, Int.mul_left_comm]

theorem fin_mono {l : List Int} {m m' k : Nat} (h : fin l m = some k) (hm : m ≤ m') : fin l m' = some k := by
  obtain ⟨a, b, c, d⟩ := fin_some h
  exact fin_of (by omega) b c d

/-- What is read, unsigned: the error's number, the number, the place behind. -/
def readU (l : List Int) (p w : Int) : Int × Int × Int :=
  if w < 1 ∨ 64 < w ∨ p < 0 ∨ (l.length : Int) < p then (0, 0, 2)
  else match fin (l.drop p.toNat) ((w + 6) / 7).toNat with
    | none => (0, 0, 4)
    | some k => if val (l.drop p.toNat) (k + 1) < 2 ^ w.toNat then (val (l.drop p.toNat) (k + 1), p + k + 1, 0) else (0, 0, 4)

/-- The signed number of 'k + 1' digits. -/
def sval (l : List Int) (k : Nat) : Int := val l (k + 1) - if 64 ≤ l[k]?.getD 0 then 128 ^ (k + 1) else 0

/-- What is read, signed. -/
def readS (l : List Int) (p w : Int) : Int × Int × Int :=
  if w < 1 ∨ 64 < w ∨ p < 0 ∨ (l.length : Int) < p then (0, 0, 2)
  else match fin (l.drop p.toNat) ((w + 6) / 7).toNat with
    | none => (0, 0, 4)
    | some k => if -2 ^ (w - 1).toNat ≤ sval (l.drop p.toNat) k ∧ sval (l.drop p.toNat) k < 2 ^ (w - 1).toNat then (sval (l.drop p.toNat) k, p + k + 1, 0) else (0, 0, 4)

end Go.Proofs.Yteacjhmbamcegab.Leb
