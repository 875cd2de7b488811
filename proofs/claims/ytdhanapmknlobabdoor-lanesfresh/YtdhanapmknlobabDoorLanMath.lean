/-
  Vectors of two words, bit by bit: lanes, lanes that are laid, the vector of lanes; rows of bytes (no program).
-/
set_option linter.unusedVariables false
namespace Go.Proofs.YtdhanapmknlobabDoor.Lan

def WW (w : Nat) : Prop := w = 8 ∨ w = 16 ∨ w = 32 ∨ w = 64
/-- The bit k of a vector. -/
def bv (v : Nat × Nat) (k : Nat) : Bool := if k < 64 then v.1.testBit k else v.2.testBit (k - 64)
def Vok (v : Nat × Nat) : Prop := v.1 < 2 ^ 64 ∧ v.2 < 2 ^ 64

theorem tb_high {x n k : Nat} (h : x < 2 ^ n) (hk : n ≤ k) : x.testBit k = false :=
  Nat.testBit_lt_two_pow (Nat.lt_of_lt_of_le h (Nat.pow_le_pow_right (by decide) hk))

theorem word_ext {x y : Nat} (hx : x < 2 ^ 64) (hy : y < 2 ^ 64) (h : ∀ k, k < 64 → x.testBit k = y.testBit k) : x = y := by
  apply Nat.eq_of_testBit_eq
  intro k
  by_cases c : k < 64
  · exact h k c
  · rw [tb_high hx (by omega), tb_high hy (by omega)]

theorem vec_ext {u v : Nat × Nat} (hu : Vok u) (hv : Vok v) (h : ∀ k, k < 128 → bv u k = bv v k) : u = v := by
  have h1 : u.1 = v.1 := word_ext hu.1 hv.1 (fun k hk => by have := h k (by omega); unfold bv at this; rwa [if_pos hk, if_pos hk] at this)
  have h2 : u.2 = v.2 := word_ext hu.2 hv.2 (fun k hk => by
    have := h (k + 64) (by omega); unfold bv at this
    rw [if_neg (by omega), if_neg (by omega)] at this
    simpa using this)
  cases u; cases v; simp only at h1 h2; rw [h1, h2]

/-- The lane i of width w. -/
def laneN (v : Nat × Nat) (w i : Nat) : Nat := if i * w < 64 then v.1 / 2 ^ (i * w) % 2 ^ w else v.2 / 2 ^ (i * w - 64) % 2 ^ w

theorem laneN_lt (v : Nat × Nat) (w i : Nat) : laneN v w i < 2 ^ w := by
  unfold laneN; split <;> exact Nat.mod_lt _ (Nat.two_pow_pos w)

theorem in_word {w i : Nat} (hw : WW w) (hi : i < 128 / w) : i * w + w ≤ 128 ∧ (i * w < 64 → i * w + w ≤ 64) := by
  rcases hw with rfl | rfl | rfl | rfl <;> omega

theorem tb_lane {v : Nat × Nat} {w i : Nat} (hw : WW w) (hi : i < 128 / w) (j : Nat) : (laneN v w i).testBit j = (decide (j < w) && bv v (i * w + j)) := by
  obtain ⟨h1, h2⟩ := in_word hw hi
  unfold laneN
  by_cases c : i * w < 64
  · rw [if_pos c, Nat.testBit_mod_two_pow, Nat.testBit_div_two_pow]
    by_cases d : j < w
    · simp only [d, decide_true, Bool.true_and]
      unfold bv
      rw [if_pos (by have := h2 c; omega)]
      congr 1; omega
    · simp [d]
  · rw [if_neg c, Nat.testBit_mod_two_pow, Nat.testBit_div_two_pow]
    by_cases d : j < w
    · simp only [d, decide_true, Bool.true_and]
      unfold bv
      rw [if_neg (by omega)]
      congr 1
      omega
    · simp [d]

/-- The word x, but with n as its w bits from a on. -/
def patchN (x w a n : Nat) : Nat := 2 ^ a * (2 ^ w * (x / 2 ^ (a + w)) + n) + x % 2 ^ a

theorem tb_patch {x w a n : Nat} (hn : n < 2 ^ w) (k : Nat) : (patchN x w a n).testBit k = if a ≤ k ∧ k < a + w then n.testBit (k - a) else x.testBit k := by
  unfold patchN
  rw [Nat.testBit_two_pow_mul_add _ (Nat.mod_lt _ (Nat.two_pow_pos a))]
  by_cases c : k < a
  · rw [if_pos c, if_neg (by omega), Nat.testBit_mod_two_pow]; simp [c]
  · rw [if_neg c, Nat.testBit_two_pow_mul_add _ hn]
    by_cases d : k - a < w
    · rw [if_pos d, if_pos (by omega)]
    · rw [if_neg d, if_neg (by omega), Nat.testBit_div_two_pow]
      congr 1; omega

theorem patch_lt {x w a n : Nat} (hx : x < 2 ^ 64) (hn : n < 2 ^ w) (h : a + w ≤ 64) : patchN x w a n < 2 ^ 64 := by
  apply Nat.lt_pow_two_of_testBit
  intro k hk
  rw [tb_patch hn, if_neg (by omega)]
  exact tb_high hx hk

/-- v, but with n as its lane i. -/
def withN (v : Nat × Nat) (w i n : Nat) : Nat × Nat := if i * w < 64 then (patchN v.1 w (i * w) n, v.2) else (v.1, patchN v.2 w (i * w - 64) n)

theorem bv_with {v : Nat × Nat} {w i n : Nat} (hw : WW w) (hi : i < 128 / w) (hn : n < 2 ^ w) (k : Nat) :
    bv (withN v w i n) k = if i * w ≤ k ∧ k < i * w + w then n.testBit (k - i * w) else bv v k := by
  obtain ⟨h1, h2⟩ := in_word hw hi
  unfold withN
  by_cases c : i * w < 64
  · rw [if_pos c]
    have h3 := h2 c
    unfold bv
    by_cases d : k < 64
    · simp only [if_pos d]; exact tb_patch hn k
    · simp only [if_neg d]; rw [if_neg (by omega)]
  · rw [if_neg c]
    unfold bv
    by_cases d : k < 64
    · simp only [if_pos d]; rw [if_neg (by omega)]
    · simp only [if_neg d]; rw [tb_patch hn]
      by_cases e : i * w ≤ k ∧ k < i * w + w
      · rw [if_pos e, if_pos (by omega)]; congr 1; omega
      · rw [if_neg e, if_neg (by omega)]

theorem with_ok {v : Nat × Nat} {w i n : Nat} (hw : WW w) (hi : i < 128 / w) (hn : n < 2 ^ w) (hv : Vok v) : Vok (withN v w i n) := by
  obtain ⟨h1, h2⟩ := in_word hw hi
  unfold withN
  by_cases c : i * w < 64
  · rw [if_pos c]; exact ⟨patch_lt hv.1 hn (h2 c), hv.2⟩
  · rw [if_neg c]; exact ⟨hv.1, patch_lt hv.2 hn (by omega)⟩

/-- A number of a list, 0 beyond it. -/
def at0 (l : List Nat) (i : Nat) : Nat := l[i]?.getD 0

/-- The first m lanes laid. -/
def vecTo (w : Nat) (l : List Nat) : Nat → Nat × Nat
  | 0 => (0, 0)
  | m + 1 => withN (vecTo w l m) w m (at0 l m)
def vecN (w : Nat) (l : List Nat) : Nat × Nat := vecTo w l (128 / w)
def Lanes (w : Nat) (l : List Nat) : Prop := ∀ i, at0 l i < 2 ^ w

theorem vecTo_ok {w : Nat} {l : List Nat} (hw : WW w) (hl : Lanes w l) : ∀ m, m ≤ 128 / w → Vok (vecTo w l m)
  | 0, _ => ⟨Nat.two_pow_pos 64, Nat.two_pow_pos 64⟩
  | m + 1, h => with_ok hw (by omega) (hl m) (vecTo_ok hw hl m (by omega))

theorem bv_vecTo {w : Nat} {l : List Nat} (hw : WW w) (hl : Lanes w l) (k : Nat) : ∀ m, m ≤ 128 / w → bv (vecTo w l m) k = (decide (k < m * w) && (at0 l (k / w)).testBit (k % w))
  | 0, _ => by simp [vecTo, bv]
  | m + 1, h => by
    have hp : 0 < w := by rcases hw with rfl | rfl | rfl | rfl <;> decide
    rw [vecTo, bv_with hw (by omega) (hl m), bv_vecTo hw hl k m (by omega)]
    have e : (m + 1) * w = m * w + w := Nat.succ_mul m w
    rw [e]
    by_cases c : m * w ≤ k ∧ k < m * w + w
    · rw [if_pos c]
      have h1 : k / w = m := by
        apply Nat.div_eq_of_lt_le
        · exact c.1
        · rw [e]; exact c.2
      have h2 : k % w = k - m * w := by
        have := Nat.div_add_mod k w
        rw [h1, Nat.mul_comm] at this
        omega
      rw [h1, h2]
      simp [c.2]
    · rw [if_neg c]
      by_cases d : k < m * w
      · simp [d, show k < m * w + w by omega]
      · simp [d, show ¬ k < m * w + w by omega]

theorem bv_vec {w : Nat} {l : List Nat} (hw : WW w) (hl : Lanes w l) (k : Nat) (hk : k < 128) : bv (vecN w l) k = (at0 l (k / w)).testBit (k % w) := by
  unfold vecN
  rw [bv_vecTo hw hl k _ (Nat.le_refl _)]
  have : k < 128 / w * w := by rcases hw with rfl | rfl | rfl | rfl <;> omega
  simp [this]

/-- All lanes. -/
def listN (v : Nat × Nat) (w : Nat) : List Nat := (List.range (128 / w)).map (laneN v w)

theorem listN_length (v : Nat × Nat) (w : Nat) : (listN v w).length = 128 / w := by simp [listN]
theorem at_list (v : Nat × Nat) (w i : Nat) (hi : i < 128 / w) : at0 (listN v w) i = laneN v w i := by
  simp [at0, listN, List.getElem?_range hi]
theorem list_lanes (v : Nat × Nat) (w : Nat) : Lanes w (listN v w) := by
  intro i
  by_cases h : i < 128 / w
  · rw [at_list v w i h]; exact laneN_lt v w i
  · have e : (listN v w)[i]? = none := List.getElem?_eq_none (by rw [listN_length]; omega)
    unfold at0; rw [e]; exact Nat.two_pow_pos w

/-- The vector of all lanes is the vector. -/
theorem vec_list {v : Nat × Nat} {w : Nat} (hw : WW w) (hv : Vok v) : vecN w (listN v w) = v := by
  refine vec_ext (vecTo_ok hw (list_lanes v w) _ (Nat.le_refl _)) hv fun k hk => ?_
  rw [bv_vec hw (list_lanes v w) k hk]
  have h1 : k / w < 128 / w := by rcases hw with rfl | rfl | rfl | rfl <;> omega
  rw [at_list v w _ h1, tb_lane hw h1]
  have h2 : k % w < w := Nat.mod_lt _ (by rcases hw with rfl | rfl | rfl | rfl <;> decide)
  have h3 : k / w * w + k % w = k := by rw [Nat.mul_comm]; exact Nat.div_add_mod k w
  rw [h3]; simp [h2]

theorem lane_ext {x y w : Nat} (hx : x < 2 ^ w) (hy : y < 2 ^ w) (h : ∀ j, j < w → x.testBit j = y.testBit j) : x = y := by
  apply Nat.eq_of_testBit_eq
  intro k
  by_cases c : k < w
  · exact h k c
  · rw [tb_high hx (by omega), tb_high hy (by omega)]

/-- A lane of the vector of lanes is it. -/
theorem lane_vec {w : Nat} {l : List Nat} (hw : WW w) (hl : Lanes w l) (i : Nat) (hi : i < 128 / w) : laneN (vecN w l) w i = at0 l i := by
  refine lane_ext (laneN_lt ..) (hl i) fun j hj => ?_
  have hp : 0 < w := by omega
  have h0 : i * w + j < 128 := by have := (in_word hw hi).1; omega
  rw [tb_lane hw hi, bv_vec hw hl _ h0]
  have h1 : (i * w + j) / w = i := by
    apply Nat.div_eq_of_lt_le
    · omega
    · rw [Nat.succ_mul]; omega
  have h2 : (i * w + j) % w = j := by rw [Nat.mul_comm, Nat.mul_add_mod, Nat.mod_eq_of_lt hj]
  rw [h1, h2]; simp [hj]

theorem lane_with {v : Nat × Nat} {w i n : Nat} (hw : WW w) (hi : i < 128 / w) (hn : n < 2 ^ w) (k : Nat) (hk : k < 128 / w) :
    laneN (withN v w i n) w k = if k = i then n else laneN v w k := by
  split
  · next e =>
    subst e
    refine lane_ext (laneN_lt ..) hn fun j hj => ?_
    rw [tb_lane hw hk, bv_with hw hk hn, if_pos (by omega)]
    simp [hj]
  · next e =>
    refine lane_ext (laneN_lt ..) (laneN_lt ..) fun j hj => ?_
    rw [tb_lane hw hk, tb_lane hw hk, bv_with hw hi hn, if_neg]
    rcases hw with rfl | rfl | rfl | rfl <;> omega
end Go.Proofs.YtdhanapmknlobabDoor.Lan
