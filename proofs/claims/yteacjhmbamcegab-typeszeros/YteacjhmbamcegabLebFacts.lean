/-
  Plain facts on what is read: when, and of which widths.
-/
import Derived.Test.YteacjhmbamcegabLebMath
namespace Go.Proofs.Yteacjhmbamcegab.Leb

/-- A number is read: from which digits. -/
def OkU (l : List Int) (p wd : Int) (q k : Nat) : Prop :=
  p = q ∧ 1 ≤ wd ∧ wd ≤ 64 ∧ q ≤ l.length ∧ fin (l.drop q) ((wd + 6) / 7).toNat = some k ∧ val (l.drop q) (k + 1) < 2 ^ wd.toNat

def OkS (l : List Int) (p wd : Int) (q k : Nat) : Prop :=
  p = q ∧ 1 ≤ wd ∧ wd ≤ 64 ∧ q ≤ l.length ∧ fin (l.drop q) ((wd + 6) / 7).toNat = some k ∧ -2 ^ (wd - 1).toNat ≤ sval (l.drop q) k ∧ sval (l.drop q) k < 2 ^ (wd - 1).toNat

theorem readU_of {l : List Int} {p wd : Int} {q k : Nat} (h : OkU l p wd q k) : readU l p wd = (val (l.drop q) (k + 1), (q : Int) + k + 1, 0) := by
  obtain ⟨rfl, h1, h2, h3, h4, h5⟩ := h
  unfold readU
  rw [if_neg (by omega), Int.toNat_natCast, h4]
  show (if _ then _ else _) = _
  rw [if_pos h5]

theorem readS_of {l : List Int} {p wd : Int} {q k : Nat} (h : OkS l p wd q k) : readS l p wd = (sval (l.drop q) k, (q : Int) + k + 1, 0) := by
  obtain ⟨rfl, h1, h2, h3, h4, h5⟩ := h
  unfold readS
  rw [if_neg (by omega), Int.toNat_natCast, h4]
  show (if _ then _ else _) = _
  rw [if_pos h5]

theorem readU_cases (l : List Int) (p wd : Int) : readU l p wd = (0, 0, 2) ∨ readU l p wd = (0, 0, 4) ∨ ∃ q k, OkU l p wd q k := by
  by_cases hb : wd < 1 ∨ 64 < wd ∨ p < 0 ∨ (l.length : Int) < p
  · left; unfold readU; rw [if_pos hb]
  · right
    obtain ⟨q, rfl⟩ := Int.eq_ofNat_of_zero_le (show 0 ≤ p by omega)
    cases hf : fin (l.drop q) ((wd + 6) / 7).toNat with
    | none => left; unfold readU; rw [if_neg hb, Int.toNat_natCast, hf]
    | some k =>
      by_cases hv : val (l.drop q) (k + 1) < 2 ^ wd.toNat
      · right; exact ⟨q, k, rfl, by omega, by omega, by omega, hf, hv⟩
      · left; unfold readU; rw [if_neg hb, Int.toNat_natCast, hf]
        show (if _ then _ else _) = _
        rw [if_neg hv]

theorem readS_cases (l : List Int) (p wd : Int) : readS l p wd = (0, 0, 2) ∨ readS l p wd = (0, 0, 4) ∨ ∃ q k, OkS l p wd q k := by
  by_cases hb : wd < 1 ∨ 64 < wd ∨ p < 0 ∨ (l.length : Int) < p
  · left; unfold readS; rw [if_pos hb]
  · right
    obtain ⟨q, rfl⟩ := Int.eq_ofNat_of_zero_le (show 0 ≤ p by omega)
    cases hf : fin (l.drop q) ((wd + 6) / 7).toNat with
    | none => left; unfold readS; rw [if_neg hb, Int.toNat_natCast, hf]
    | some k =>
      by_cases hv : -2 ^ (wd - 1).toNat ≤ sval (l.drop q) k ∧ sval (l.drop q) k < 2 ^ (wd - 1).toNat
      · right; exact ⟨q, k, rfl, by omega, by omega, by omega, hf, hv⟩
      · left; unfold readS; rw [if_neg hb, Int.toNat_natCast, hf]
        show (if _ then _ else _) = _
        rw [if_neg hv]

theorem pow_mono {a b : Nat} (h : a ≤ b) : (2 : Int) ^ a ≤ 2 ^ b := by
  have h1 : (2 : Nat) ^ a ≤ 2 ^ b := Nat.pow_le_pow_right (by decide) h
  have h2 : ((2 ^ a : Nat) : Int) ≤ ((2 ^ b : Nat) : Int) := by exact_mod_cast h1
  simpa using h2

theorem OkU.wider {l : List Int} {p wd : Int} {q k : Nat} (h : OkU l p wd q k) {v : Int} (h1 : wd ≤ v) (h2 : v ≤ 64) : OkU l p v q k := by
  obtain ⟨a, b, c, d, e, f⟩ := h
  exact ⟨a, by omega, h2, d, fin_mono e (by omega), Int.lt_of_lt_of_le f (pow_mono (by omega))⟩

theorem OkS.wider {l : List Int} {p wd : Int} {q k : Nat} (h : OkS l p wd q k) {v : Int} (h1 : wd ≤ v) (h2 : v ≤ 64) : OkS l p v q k := by
  obtain ⟨a, b, c, d, e, f, g⟩ := h
  have := pow_mono (a := (wd - 1).toNat) (b := (v - 1).toNat) (by omega)
  exact ⟨a, by omega, h2, d, fin_mono e (by omega), by omega, by omega⟩

theorem OkU.ends {l : List Int} {p wd : Int} {q k : Nat} (h : OkU l p wd q k) : q + k + 1 ≤ l.length := by
  obtain ⟨a, b, c, d, e, f⟩ := h
  have := (fin_some e).2.1
  rw [List.length_drop] at this
  omega

theorem OkS.ends {l : List Int} {p wd : Int} {q k : Nat} (h : OkS l p wd q k) : q + k + 1 ≤ l.length := by
  obtain ⟨a, b, c, d, e, f⟩ := h
  have := (fin_some e).2.1
  rw [List.length_drop] at this
  omega

/-- Without a sign's bit in the last byte the signed number of a width more is the unsigned one. -/
theorem OkU.signed {l : List Int} {p wd : Int} {q k : Nat} (h : OkU l p wd q k) (h63 : wd ≤ 63) (hs : (l.drop q)[k]?.getD 0 < 64) :
    OkS l p (wd + 1) q k ∧ sval (l.drop q) k = val (l.drop q) (k + 1) := by
  obtain ⟨a, b, c, d, e, f⟩ := h
  have hv := val_nonneg (l.drop q) (k + 1)
  have e1 : sval (l.drop q) k = val (l.drop q) (k + 1) := by unfold sval; rw [if_neg (by omega)]; omega
  have e2 : (wd + 1 - 1).toNat = wd.toNat := by omega
  have hp := pow2_pos wd.toNat
  refine ⟨⟨a, by omega, by omega, d, fin_mono e (by omega), ?_, ?_⟩, e1⟩
  · rw [e1, e2]; omega
  · rw [e1, e2]; exact f
end Go.Proofs.Yteacjhmbamcegab.Leb
