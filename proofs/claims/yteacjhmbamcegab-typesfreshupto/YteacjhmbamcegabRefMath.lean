/-
  Plain mathematics of the document's own digits.
-/
import Derived.Test.YteacjhmbamcegabLebFacts
namespace Go.Proofs.Yteacjhmbamcegab.Leb

/-- The number of digits, the lowest first. -/
def dval : List Int → Int
  | [] => 0
  | d :: ds => d + 128 * dval ds

/-- Digits: from 0 to 127. -/
def Digits (ds : List Int) : Prop := ∀ i : Nat, 0 ≤ ds[i]?.getD 0 ∧ ds[i]?.getD 0 ≤ 127

def low (l : List Int) (k : Nat) : List Int := (l.take k).map (· % 128)

theorem low_length (l : List Int) (k : Nat) (h : k ≤ l.length) : (low l k).length = k := by
  unfold low; simp; omega

theorem low_digits (l : List Int) (k : Nat) : Digits (low l k) := by
  intro i
  unfold low
  rw [List.getElem?_map]
  cases (l.take k)[i]? with
  | none => simp
  | some x => simp; omega

theorem low_get (l : List Int) (k i : Nat) (h : i < k) (hl : k ≤ l.length) : (low l k)[i]?.getD 0 = l[i]?.getD 0 % 128 := by
  unfold low
  rw [List.getElem?_map, List.getElem?_take_of_lt h, List.getElem?_eq_getElem (by omega)]
  simp

theorem low_succ (l : List Int) (k : Nat) (h : k < l.length) : low l (k + 1) = low l k ++ [l[k]?.getD 0 % 128] := by
  unfold low
  rw [List.take_succ_eq_append_getElem h, List.map_append, List.map_cons, List.map_nil, List.getElem?_eq_getElem h]
  rfl

theorem dval_low (l : List Int) (k : Nat) (h : k ≤ l.length) : dval (low l k) = val l k := by
  induction l generalizing k with
  | nil => cases k <;> simp [low, dval, val]
  | cons x xs ih =>
    cases k with
    | zero => simp [low, dval, val]
    | succ k =>
      have e := ih k (by simp at h; omega)
      unfold low at e ⊢
      simp only [List.take_succ_cons, List.map_cons, dval, val]
      rw [e]

theorem digits_tail {d : Int} {ds : List Int} (h : Digits (d :: ds)) : Digits ds := fun i => by simpa using h (i + 1)

theorem dval_nonneg (ds : List Int) (h : Digits ds) : 0 ≤ dval ds := by
  induction ds with
  | nil => simp [dval]
  | cons d ds ih => have := ih (digits_tail h); have h0 := h 0; simp at h0; unfold dval; omega

theorem digits_drop {ds : List Int} (h : Digits ds) (i : Nat) : Digits (ds.drop i) := fun j => by rw [List.getElem?_drop]; exact h (i + j)

theorem dval_drop_le (ds : List Int) (h : Digits ds) (i : Nat) : dval (ds.drop i) ≤ dval ds := by
  induction ds generalizing i with
  | nil => simp
  | cons d ds ih =>
    cases i with
    | zero => simp
    | succ i =>
      have h1 := ih (digits_tail h) i
      have h0 := h 0
      have h2 := dval_nonneg ds (digits_tail h)
      simp at h0
      simp only [List.drop_succ_cons, dval]
      omega

theorem dval_drop_step (ds : List Int) (i : Nat) (hi : i < ds.length) : dval (ds.drop i) = ds[i]?.getD 0 + 128 * dval (ds.drop (i + 1)) := by
  rw [List.drop_eq_getElem_cons hi]
  simp [dval, hi]


/-- The first 'i' digits turned to what each lacks to 127. -/
def flip (i : Nat) (ds : List Int) : List Int := (ds.take i).map (127 - ·) ++ ds.drop i

theorem flip_zero (ds : List Int) : flip 0 ds = ds := by simp [flip]

theorem flip_length (i : Nat) (ds : List Int) : (flip i ds).length = ds.length := by simp [flip]; omega

theorem flip_step (i : Nat) (ds : List Int) (h : i < ds.length) : (flip i ds).set i (127 - ds[i]?.getD 0) = flip (i + 1) ds := by
  have hl : ((ds.take i).map (127 - ·)).length = i := by simp; omega
  unfold flip
  rw [List.set_append_right _ _ (by omega), hl, Nat.sub_self, List.drop_eq_getElem_cons h, List.set_cons_zero, List.take_succ_eq_append_getElem h, List.map_append]
  simp [h]

theorem flip_get (i : Nat) (ds : List Int) (h : i < ds.length) : (flip i ds)[i]?.getD 0 = ds[i]?.getD 0 := by
  have hl : ((ds.take i).map (127 - ·)).length = i := by simp; omega
  unfold flip
  rw [List.getElem?_append_right (by omega), hl, Nat.sub_self, List.getElem?_drop, Nat.add_zero]

theorem flip_all (ds : List Int) : flip ds.length ds = ds.map (127 - ·) := by simp [flip]

theorem dval_flip (ds : List Int) : dval (ds.map (127 - ·)) = 128 ^ ds.length - 1 - dval ds := by
  induction ds with
  | nil => simp [dval]
  | cons d ds ih =>
    simp only [List.map_cons, dval, List.length_cons]
    rw [ih, Int.pow_succ]; omega

theorem flip_digits (ds : List Int) (h : Digits ds) : Digits (ds.map (127 - ·)) := by
  intro i
  have := h i
  rw [List.getElem?_map]
  cases e : ds[i]? with
  | none => simp
  | some x => rw [e] at this; simp at this ⊢; omega

theorem readU_none {l : List Int} {p : Nat} {wd : Int} (h1 : 1 ≤ wd) (h2 : wd ≤ 64) (h3 : p ≤ l.length) (hf : fin (l.drop p) ((wd + 6) / 7).toNat = none) : readU l p wd = (0, 0, 4) := by
  unfold readU; rw [if_neg (by omega), Int.toNat_natCast, hf]

theorem readU_some {l : List Int} {p k : Nat} {wd : Int} (h1 : 1 ≤ wd) (h2 : wd ≤ 64) (h3 : p ≤ l.length) (hf : fin (l.drop p) ((wd + 6) / 7).toNat = some k) :
    readU l p wd = if val (l.drop p) (k + 1) < 2 ^ wd.toNat then (val (l.drop p) (k + 1), (p : Int) + k + 1, 0) else (0, 0, 4) := by
  unfold readU; rw [if_neg (by omega), Int.toNat_natCast, hf]

theorem readS_none {l : List Int} {p : Nat} {wd : Int} (h1 : 1 ≤ wd) (h2 : wd ≤ 64) (h3 : p ≤ l.length) (hf : fin (l.drop p) ((wd + 6) / 7).toNat = none) : readS l p wd = (0, 0, 4) := by
  unfold readS; rw [if_neg (by omega), Int.toNat_natCast, hf]

theorem readS_some {l : List Int} {p k : Nat} {wd : Int} (h1 : 1 ≤ wd) (h2 : wd ≤ 64) (h3 : p ≤ l.length) (hf : fin (l.drop p) ((wd + 6) / 7).toNat = some k) :
    readS l p wd = if -2 ^ (wd - 1).toNat ≤ sval (l.drop p) k ∧ sval (l.drop p) k < 2 ^ (wd - 1).toNat then (sval (l.drop p) k, (p : Int) + k + 1, 0) else (0, 0, 4) := by
  unfold readS; rw [if_neg (by omega), Int.toNat_natCast, hf]

theorem read_bad {l : List Int} {p wd : Int} (h : wd < 1 ∨ 64 < wd ∨ p < 0 ∨ (l.length : Int) < p) : readU l p wd = (0, 0, 2) ∧ readS l p wd = (0, 0, 2) := by
  constructor
  · unfold readU; rw [if_pos h]
  · unfold readS; rw [if_pos h]

end Go.Proofs.Yteacjhmbamcegab.Leb
