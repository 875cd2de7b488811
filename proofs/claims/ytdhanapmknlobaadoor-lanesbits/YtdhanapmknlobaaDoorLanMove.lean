/-
  Bytes that are taken by numbers; bits that are laid one by one (no program).
-/
import Derived.Test.YtdhanapmknlobaaDoorLanMath
set_option linter.unusedVariables false
namespace Go.Proofs.YtdhanapmknlobaaDoor.Lan

/-- A list of sixteen by its places. -/
def list16f (f : Nat → Nat) : List Nat := (List.range 16).map f
theorem list16f_length (f : Nat → Nat) : (list16f f).length = 16 := by simp [list16f]
theorem at_16f (f : Nat → Nat) (i : Nat) (hi : i < 16) : at0 (list16f f) i = f i := by
  simp [at0, list16f, List.getElem?_range hi]
theorem list16f_congr {f g : Nat → Nat} (h : ∀ i, i < 16 → f i = g i) : list16f f = list16f g := by
  apply List.map_congr_left
  intro j hj
  exact h j (by simpa using hj)
theorem list16f_at {L : List Nat} (h : L.length = 16) : list16f (at0 L) = L := by
  apply List.ext_getElem
  · simp [list16f, h]
  · intro j h1 h2
    simp [list16f, at0, List.getElem?_eq_getElem h2]
theorem lanes_16f {f : Nat → Nat} (h : ∀ i, i < 16 → f i < 2 ^ 8) : Lanes 8 (list16f f) := by
  intro i
  by_cases c : i < 16
  · rw [at_16f f i c]; exact h i c
  · have e : (list16f f)[i]? = none := List.getElem?_eq_none (by rw [list16f_length]; omega)
    unfold at0; rw [e]; exact Nat.two_pow_pos 8
theorem at_beyond {L : List Nat} (h : L.length = 16) {i : Nat} (hi : 16 ≤ i) : at0 L i = 0 := by
  have e : L[i]? = none := List.getElem?_eq_none (by omega)
  unfold at0; rw [e]; rfl

/-- What the number takes of both. -/
def takeN (A B : List Nat) (n : Nat) : Nat := if n < 16 then at0 A n else at0 B (n - 16)
def shufL (A B L : List Nat) : List Nat := list16f fun i => takeN A B (at0 L i)
def okSh (L : List Nat) : Bool := L.all fun n => decide (n < 32)
def swizL (A B : List Nat) : List Nat := list16f fun i => if at0 B i < 16 then at0 A (at0 B i) else 0

theorem okSh_false {L : List Nat} {k : Nat} (hk : k < L.length) (h : ¬ at0 L k < 32) : okSh L = false := by
  unfold okSh
  rw [List.all_eq_false]
  refine ⟨at0 L k, ?_, by simpa using h⟩
  simp [at0, List.getElem?_eq_getElem hk]
theorem okSh_true {L : List Nat} (h : ∀ k, k < L.length → at0 L k < 32) : okSh L = true := by
  unfold okSh
  rw [List.all_eq_true]
  intro x hx
  obtain ⟨k, hk, rfl⟩ := List.mem_iff_getElem.1 hx
  have := h k hk
  simpa [at0, List.getElem?_eq_getElem hk] using this
theorem take_lt {A B : List Nat} (hA : Lanes 8 A) (hB : Lanes 8 B) (n : Nat) : takeN A B n < 2 ^ 8 := by
  unfold takeN; split
  · exact hA _
  · exact hB _
theorem shuf_lanes {A B : List Nat} (hA : Lanes 8 A) (hB : Lanes 8 B) (L : List Nat) : Lanes 8 (shufL A B L) := lanes_16f fun i _ => take_lt hA hB _
theorem swiz_lanes {A : List Nat} (hA : Lanes 8 A) (B : List Nat) : Lanes 8 (swizL A B) := lanes_16f fun i _ => by
  show (if at0 B i < 16 then at0 A (at0 B i) else 0) < 2 ^ 8
  split
  · exact hA _
  · exact Nat.two_pow_pos 8

/-- What is answered, and the error's number. -/
def shufV (a b : Nat × Nat) (L : List Nat) : (Nat × Nat) × Int := if okSh L then (vecN 8 (shufL (listN a 8) (listN b 8) L), 0) else ((0, 0), 2)
def swizV (a b : Nat × Nat) : Nat × Nat := vecN 8 (swizL (listN a 8) (listN b 8))

/-- 0 to 15 take the first one. -/
theorem shuf_first {a : Nat × Nat} (ha : Vok a) (b : Nat × Nat) : shufV a b (list16f fun i => i) = (a, 0) := by
  have h1 : okSh (list16f fun i => i) = true := okSh_true fun k hk => by
    rw [list16f_length] at hk; rw [at_16f _ k hk]; omega
  unfold shufV
  rw [h1, if_pos rfl]
  have e : shufL (listN a 8) (listN b 8) (list16f fun i => i) = listN a 8 := by
    unfold shufL
    rw [← list16f_at (L := listN a 8) (by rw [listN_length])]
    refine list16f_congr fun i hi => ?_
    rw [at_16f _ i hi, list16f_at (by rw [listN_length])]
    unfold takeN; rw [if_pos hi]
  rw [e, vec_list (.inl rfl) ha]
theorem shuf_second (a : Nat × Nat) {b : Nat × Nat} (hb : Vok b) : shufV a b (list16f fun i => 16 + i) = (b, 0) := by
  have h1 : okSh (list16f fun i => 16 + i) = true := okSh_true fun k hk => by
    rw [list16f_length] at hk; rw [at_16f _ k hk]; omega
  unfold shufV
  rw [h1, if_pos rfl]
  have e : shufL (listN a 8) (listN b 8) (list16f fun i => 16 + i) = listN b 8 := by
    unfold shufL
    rw [← list16f_at (L := listN b 8) (by rw [listN_length])]
    refine list16f_congr fun i hi => ?_
    rw [at_16f _ i hi, list16f_at (by rw [listN_length])]
    unfold takeN; rw [if_neg (by omega), Nat.add_sub_cancel_left]
  rw [e, vec_list (.inl rfl) hb]

theorem lane_zero (i : Nat) : laneN (0, 0) 8 i = 0 := by
  unfold laneN; split <;> simp

/-- Taken by another one's bytes. -/
theorem shuf_swiz (a b : Nat × Nat) : shufV a (0, 0) (list16f fun i => if at0 (listN b 8) i < 16 then at0 (listN b 8) i else 16) = (swizV a b, 0) := by
  have h1 : okSh (list16f fun i => if at0 (listN b 8) i < 16 then at0 (listN b 8) i else 16) = true := okSh_true fun k hk => by
    rw [list16f_length] at hk; rw [at_16f _ k hk]; split <;> omega
  unfold shufV swizV
  rw [h1, if_pos rfl]
  congr 2
  unfold shufL swizL
  refine list16f_congr fun i hi => ?_
  rw [at_16f _ i hi]
  by_cases c : at0 (listN b 8) i < 16
  · rw [if_pos c, if_pos c]; unfold takeN; rw [if_pos c]
  · rw [if_neg c, if_neg c]; unfold takeN; rw [if_neg (by omega)]
    rw [at_list _ _ _ (by decide), lane_zero]

/-! Bits -/

/-- The bytes hold the first k of the bits. -/
def Bits (f : Nat → Bool) (k : Nat) (L : List Nat) : Prop := L.length = 16 ∧ Lanes 8 L ∧ ∀ j, j < 128 → (at0 L (j / 8)).testBit (j % 8) = (decide (j < k) && f j)

theorem bits_zero (f : Nat → Bool) : Bits f 0 (List.replicate 16 0) := by
  have h : ∀ i, at0 (List.replicate 16 0) i = 0 := by
    intro i; simp only [at0, List.getElem?_replicate]; split <;> rfl
  refine ⟨by simp, fun i => by rw [h]; exact Nat.two_pow_pos 8, fun j _ => by rw [h]; simp⟩

theorem bits_skip {f : Nat → Bool} {k : Nat} {L : List Nat} (h : Bits f k L) (hf : f k = false) : Bits f (k + 1) L := by
  obtain ⟨h1, h2, h3⟩ := h
  refine ⟨h1, h2, fun j hj => ?_⟩
  rw [h3 j hj]
  by_cases e : j = k
  · subst e; simp [hf]
  · by_cases c : j < k
    · simp [c, show j < k + 1 by omega]
    · simp [c, show ¬ j < k + 1 by omega]

theorem at_set {L : List Nat} {i k n : Nat} (hi : i < L.length) : at0 (L.set i n) k = if k = i then n else at0 L k := by
  unfold at0
  rw [List.getElem?_set]
  by_cases e : i = k
  · subst e; simp [hi]
  · rw [if_neg e, if_neg (fun h => e (Eq.symm h))]

theorem bits_put {f : Nat → Bool} {k : Nat} {L : List Nat} (hk : k < 128) (h : Bits f k L) (hf : f k = true) : Bits f (k + 1) (L.set (k / 8) (at0 L (k / 8) ||| 2 ^ (k % 8))) := by
  obtain ⟨h1, h2, h3⟩ := h
  have hi : k / 8 < L.length := by omega
  refine ⟨by simp [h1], fun i => ?_, fun j hj => ?_⟩
  · rw [at_set hi]
    split
    · exact Nat.or_lt_two_pow (h2 _) (Nat.pow_lt_pow_right (by decide) (by omega))
    · exact h2 i
  · rw [at_set hi]
    by_cases c : j / 8 = k / 8
    · rw [if_pos c, Nat.testBit_or, Nat.testBit_two_pow, ← c, h3 j hj]
      by_cases e : j = k
      · subst e; simp [hf]
      · have : ¬ k % 8 = j % 8 := by omega
        by_cases d : j < k
        · simp [this, d, show j < k + 1 by omega]
        · simp [this, d, show ¬ j < k + 1 by omega]
    · rw [if_neg c, h3 j hj]
      by_cases d : j < k
      · simp [d, show j < k + 1 by omega]
      · simp [d, show ¬ j < k + 1 by omega]

theorem bits_all {f : Nat → Bool} {L : List Nat} (h : Bits f 128 L) (k : Nat) (hk : k < 128) : bv (vecN 8 L) k = f k := by
  rw [bv_vec (.inl rfl) h.2.1 k hk, h.2.2 k hk]; simp [hk]
end Go.Proofs.YtdhanapmknlobaaDoor.Lan
