/-
  What follows of what the operators of lanes answer (no program).
-/
import Derived.Test.YtoihfmammmkloaaDoorPkVinA
set_option linter.unusedVariables false
set_option linter.unusedSimpArgs false
namespace Go.Proofs.YtoihfmammmkloaaDoor
open Go.RowKit Lan

theorem vlanes_ok {w : Nat} (hw : IsW w) {f : Nat → Nat} (hf : ∀ i, i < 128 / w → f i < 2 ^ w) : Vok (vlanes w f) := vecTo_ok hw (map_lanes hf) _ (Nat.le_refl _)
theorem lane_at {w : Nat} (hw : IsW w) {f : Nat → Nat} (hf : ∀ i, i < 128 / w → f i < 2 ^ w) (i : Nat) (hi : i < 128 / w) : laneN (vlanes w f) w i = f i := by
  unfold vlanes
  rw [lane_vec hw (map_lanes hf) i hi]
  simp [at0, List.getElem?_range hi]
theorem vlanes_self {w : Nat} (hw : IsW w) {a : Nat × Nat} (ha : Vok a) {f : Nat → Nat} (h : ∀ i, i < 128 / w → f i = laneN a w i) : vlanes w f = a := by
  unfold vlanes
  have e : (List.range (128 / w)).map f = listN a w := List.map_congr_left fun i hi => h i (by simpa using hi)
  rw [e, vec_list hw ha]
theorem lanes_eq {w : Nat} (hw : IsW w) {a b : Nat × Nat} (ha : Vok a) (hb : Vok b) (h : ∀ i, i < 128 / w → laneN a w i = laneN b w i) : a = b := by
  rw [← vlanes_self hw ha (f := laneN a w) (fun i _ => rfl), vlanes_self hw hb h]

/-! works -/
theorem works_splat1 : splatV 8 255 = ((18446744073709551615, 18446744073709551615), 0) := by decide +kernel
theorem works_splat2 : splatV 8 1 = ((72340172838076673, 72340172838076673), 0) := by decide +kernel
theorem works_two : vtwo 1 8 (18446744073709551615, 18446744073709551615) (72340172838076673, 72340172838076673) = ((0, 0), 0) := by decide +kernel
theorem works_mask : vmask 8 (18446744073709551615, 18446744073709551615) = (65535, 0) := by decide +kernel

/-! Back -/
theorem nar_ext {w : Nat} (hw : w = 8 ∨ w = 16) (s : Bool) {x : Int} (hx : Z.Of w x) : Z.narV (2 * w) w s (Z.extV w (2 * w) s x) = x := by
  obtain ⟨h0, h1⟩ := hx
  rcases hw with rfl | rfl
  · cases s
    · simp only [Z.narV, Z.extV, Ints.wo, Z.mo, Bool.false_eq_true, if_false]
      split <;> omega
    · simp only [Z.narV, Z.extV, Ints.wo, Z.lo, Z.hi, Z.cutI, if_true]
      split <;> split <;> omega
  · cases s
    · simp only [Z.narV, Z.extV, Ints.wo, Z.mo, Bool.false_eq_true, if_false]
      split <;> omega
    · simp only [Z.narV, Z.extV, Ints.wo, Z.lo, Z.hi, Z.cutI, if_true]
      split <;> split <;> omega

theorem extv_lt {f t : Nat} (h : f ≤ t) (s : Bool) {x : Nat} (hx : x < 2 ^ f) : (Z.extV f t s (x : Int)).toNat < 2 ^ t ∧ (((Z.extV f t s (x : Int)).toNat : Nat) : Int) = Z.extV f t s (x : Int) := by
  refine zlt ?_
  cases s with
  | true => exact cut_of _ _
  | false =>
    show Z.Of t (x : Int)
    exact zof (Nat.lt_of_lt_of_le hx (Nat.pow_le_pow_right (by decide) h))

theorem vback {w : Nat} (hw : w = 8 ∨ w = 16) (s : Bool) {a : Nat × Nat} (ha : Vok a) :
    vlanes w (vnarN (2 * w) s (vlanes (2 * w) (vwideN w s false a)) (vlanes (2 * w) (vwideN w s true a))) = a := by
  have hW : IsW w := by rcases hw with rfl | rfl <;> simp [IsW]
  have hW2 : IsW (2 * w) := by rcases hw with rfl | rfl <;> simp [IsW]
  have hlt : ∀ h i, i < 128 / (2 * w) → vwideN w s h a i < 2 ^ (2 * w) := fun h i _ => (extv_lt (by omega) s (laneN_lt _ _ _)).1
  refine vlanes_self hW ha fun i hi => ?_
  unfold vnarN
  have key : (if i < 128 / (2 * w) then laneN (vlanes (2 * w) (vwideN w s false a)) (2 * w) i else laneN (vlanes (2 * w) (vwideN w s true a)) (2 * w) (i - 128 / (2 * w)) : Nat) = (Z.extV w (2 * w) s (laneN a w i : Int)).toNat := by
    split
    · next h =>
      rw [lane_at hW2 (hlt false) i h]
      rfl
    · next h =>
      have h2 : i - 128 / (2 * w) < 128 / (2 * w) := by rcases hw with rfl | rfl <;> omega
      rw [lane_at hW2 (hlt true) _ h2]
      have e : i - 128 / (2 * w) + 64 / w = i := by rcases hw with rfl | rfl <;> omega
      show (Z.extV w (2 * w) s (laneN a w (i - 128 / (2 * w) + 64 / w) : Int)).toNat = _
      rw [e]
  rw [key, (extv_lt (by omega) s (laneN_lt a w i)).2]
  have := nar_ext hw s (zof (laneN_lt a w i))
  have e2 : 2 * w / 2 = w := by omega
  rw [e2, this]
  exact Int.toNat_natCast _

theorem vback2 {w w2 : Nat} (hw : w = 8 ∨ w = 16) (h2 : 2 * w = w2) (s : Bool) {a : Nat × Nat} (ha : Vok a) :
    vlanes w (vnarN w2 s (vlanes w2 (vwideN w s false a)) (vlanes w2 (vwideN w s true a))) = a := by
  subst h2
  exact vback hw s ha

/-! Masks -/
theorem mask_all {w : Nat} {v : Nat × Nat} (hl : ∀ i, i < 128 / w → ¬ laneN v w i < 2 ^ (w - 1)) : ∀ k, k ≤ 128 / w → vmaskN w v k = 2 ^ k - 1
  | 0, _ => rfl
  | k + 1, h => by
    have := Nat.two_pow_pos k
    have e : 2 ^ (k + 1) = 2 ^ k + 2 ^ k := by rw [Nat.pow_succ]; omega
    simp only [vmaskN]
    rw [mask_all hl k (by omega), if_neg (hl k (by omega))]
    omega
theorem mask_le (w : Nat) (v : Nat × Nat) : ∀ k, vmaskN w v k ≤ 2 ^ k - 1
  | 0 => Nat.le_refl _
  | k + 1 => by
    have := Nat.two_pow_pos k
    have := mask_le w v k
    have e : 2 ^ (k + 1) = 2 ^ k + 2 ^ k := by rw [Nat.pow_succ]; omega
    simp only [vmaskN]
    split <;> omega
theorem mask_some {w : Nat} {v : Nat × Nat} {i : Nat} (h0 : laneN v w i < 2 ^ (w - 1)) : ∀ k, i < k → vmaskN w v k < 2 ^ k - 1
  | 0, h => by omega
  | k + 1, h => by
    have := Nat.two_pow_pos k
    have e : 2 ^ (k + 1) = 2 ^ k + 2 ^ k := by rw [Nat.pow_succ]; omega
    simp only [vmaskN]
    by_cases c : i = k
    · subst c
      rw [if_pos h0]
      have := mask_le w v i
      omega
    · have := mask_some h0 k (by omega)
      split <;> omega

theorem than_lt {op w : Nat} (a b : Nat × Nat) (i : Nat) : vthanN op w a b i < 2 ^ w := by
  have := Nat.two_pow_pos w
  unfold vthanN
  split <;> omega
theorem than_eq (w : Nat) (a b : Nat × Nat) (i : Nat) : vthanN 32 w a b i = if laneN a w i = laneN b w i then 2 ^ w - 1 else 0 := by
  unfold vthanN
  show (if ((laneN a w i : Int) == (laneN b w i : Int)) = true then _ else _) = _
  by_cases h : laneN a w i = laneN b w i
  · rw [if_pos h, if_pos (by simp [h])]
  · rw [if_neg h, if_neg (by simp; omega)]
theorem high_ones {w : Nat} (hw : IsW w) : ¬ (2 ^ w - 1 < 2 ^ (w - 1)) := by rcases hw with rfl | rfl | rfl | rfl <;> decide

theorem masks_same {w : Nat} (hw : IsW w) (a : Nat × Nat) : vmaskN w (vlanes w (vthanN 32 w a a)) (128 / w) = 2 ^ (128 / w) - 1 := by
  refine mask_all (fun i hi => ?_) _ (Nat.le_refl _)
  rw [lane_at hw (fun i _ => than_lt a a i) i hi, than_eq, if_pos rfl]
  exact high_ones hw
theorem other_lane {w : Nat} (hw : IsW w) {a b : Nat × Nat} (ha : Vok a) (hb : Vok b) (h : a ≠ b) : ∃ i, i < 128 / w ∧ laneN (vlanes w (vthanN 32 w a b)) w i = 0 := by
  apply Classical.byContradiction
  intro hn
  apply h
  refine lanes_eq hw ha hb fun i hi => ?_
  apply Classical.byContradiction
  intro he
  exact hn ⟨i, hi, by rw [lane_at hw (fun i _ => than_lt a b i) i hi, than_eq, if_neg he]⟩
theorem masks_other {w : Nat} (hw : IsW w) {a b : Nat × Nat} (ha : Vok a) (hb : Vok b) (h : a ≠ b) : vmaskN w (vlanes w (vthanN 32 w a b)) (128 / w) ≠ 2 ^ (128 / w) - 1 := by
  obtain ⟨i, hi, h0⟩ := other_lane hw ha hb h
  have := mask_some (w := w) (v := vlanes w (vthanN 32 w a b)) (i := i) (by rw [h0]; exact Nat.two_pow_pos _) (128 / w) hi
  omega
theorem all_same {w : Nat} (hw : IsW w) (a : Nat × Nat) : vallB w (vlanes w (vthanN 32 w a a)) = true := by
  unfold vallB
  rw [List.all_eq_true]
  intro i hi
  have hi := List.mem_range.1 hi
  rw [lane_at hw (fun i _ => than_lt a a i) i hi, than_eq, if_pos rfl]
  rcases hw with rfl | rfl | rfl | rfl <;> decide
theorem all_other {w : Nat} (hw : IsW w) {a b : Nat × Nat} (ha : Vok a) (hb : Vok b) (h : a ≠ b) : vallB w (vlanes w (vthanN 32 w a b)) = false := by
  obtain ⟨i, hi, h0⟩ := other_lane hw ha hb h
  unfold vallB
  rw [List.all_eq_false]
  exact ⟨i, List.mem_range.2 hi, by simp [h0]⟩

/-! Sums -/
theorem sums_back {w : Nat} (hw : IsW w) {a b : Nat × Nat} (ha : Vok a) : vlanes w (vtwoN 2 w (vlanes w (vtwoN 1 w a b)) b) = a := by
  have t1 : tok 1 w = true := by simp [tok]
  refine vlanes_self hw ha fun i hi => ?_
  have la := zof (laneN_lt a w i)
  have lb := zof (laneN_lt b w i)
  have hf : ∀ i, i < 128 / w → vtwoN 1 w a b i < 2 ^ w := fun i _ => (zlt (two_ok t1 (zof (laneN_lt a w i)) (zof (laneN_lt b w i))).1).1
  show (Z.two 2 w (laneN (vlanes w (vtwoN 1 w a b)) w i : Int) (laneN b w i : Int)).1.toNat = _
  rw [lane_at hw hf i hi]
  show (Z.cutI w (((vtwoN 1 w a b i : Nat) : Int) - (laneN b w i : Int))).toNat = _
  have e : ((vtwoN 1 w a b i : Nat) : Int) = Z.cutI w ((laneN a w i : Int) + (laneN b w i : Int)) := (zlt (cut_of w _)).2
  rw [e]
  unfold Z.cutI
  rw [Int.emod_sub_emod]
  rw [Int.add_sub_cancel, Int.emod_eq_of_lt la.1 la.2]
  exact Int.toNat_natCast _

/-- The sum of the first k. -/
def sumN (f : Nat → Nat) : Nat → Nat
  | 0 => 0
  | k + 1 => sumN f k + f k

theorem pairs8 (a : Nat × Nat) (i : Nat) : vpairsN 8 false a i = laneN a 8 (2 * i) + laneN a 8 (2 * i + 1) := by
  have h1 := laneN_lt a 8 (2 * i)
  have h2 := laneN_lt a 8 (2 * i + 1)
  show (((laneN a 8 (2 * i) : Int)).toNat + ((laneN a 8 (2 * i + 1) : Int)).toNat) % 2 ^ (2 * 8) = _
  rw [Int.toNat_natCast, Int.toNat_natCast]
  exact Nat.mod_eq_of_lt (by omega)
theorem pairs16 (p : Nat × Nat) (i : Nat) : vpairsN 16 false p i = laneN p 16 (2 * i) + laneN p 16 (2 * i + 1) := by
  have h1 := laneN_lt p 16 (2 * i)
  have h2 := laneN_lt p 16 (2 * i + 1)
  show (((laneN p 16 (2 * i) : Int)).toNat + ((laneN p 16 (2 * i + 1) : Int)).toNat) % 2 ^ (2 * 16) = _
  rw [Int.toNat_natCast, Int.toNat_natCast]
  exact Nat.mod_eq_of_lt (by omega)

theorem pair_lane (a : Nat × Nat) (j : Nat) (hj : j < 4) :
    laneN (vlanes 32 (vpairsN 16 false (vlanes 16 (vpairsN 8 false a)))) 32 j = laneN a 8 (4 * j) + laneN a 8 (4 * j + 1) + (laneN a 8 (4 * j + 2) + laneN a 8 (4 * j + 3)) := by
  have w16 : IsW 16 := .inr (.inl rfl)
  have w32 : IsW 32 := .inr (.inr (.inl rfl))
  have f8 : ∀ i, i < 128 / 16 → vpairsN 8 false a i < 2 ^ 16 := fun i _ => Nat.mod_lt _ (by decide)
  have f16 : ∀ i, i < 128 / 32 → vpairsN 16 false (vlanes 16 (vpairsN 8 false a)) i < 2 ^ 32 := fun i _ => Nat.mod_lt _ (by decide)
  rw [lane_at w32 f16 j (by omega), pairs16, lane_at w16 f8 (2 * j) (by omega), lane_at w16 f8 (2 * j + 1) (by omega), pairs8, pairs8]
  rw [show 2 * (2 * j) = 4 * j by omega, show 2 * (2 * j + 1) = 4 * j + 2 by omega]

theorem sums_all (a : Nat × Nat) : sumN (laneN (vlanes 32 (vpairsN 16 false (vlanes 16 (vpairsN 8 false a)))) 32) 4 = sumN (laneN a 8) 16 := by
  simp only [sumN]
  rw [pair_lane a 0 (by decide), pair_lane a 1 (by decide), pair_lane a 2 (by decide), pair_lane a 3 (by decide)]
  simp only [Nat.reduceMul, Nat.reduceAdd, Nat.zero_add]
  omega
theorem sum_lt {f : Nat → Nat} {w : Nat} (h : ∀ i, f i < 2 ^ w) : ∀ k, sumN f k ≤ k * 2 ^ w
  | 0 => by simp [sumN]
  | k + 1 => by
    have := sum_lt h k
    have := h k
    simp only [sumN]
    rw [Nat.succ_mul]
    omega

/-! Dot -/
theorem dot_mod (M a b c d : Int) : (a % M * (b % M) % M + c % M * (d % M) % M) % M = (a * b + c * d) % M := by
  rw [← Int.mul_emod, ← Int.mul_emod, ← Int.add_emod]
theorem dot_lane {x y u v : Nat} (hx : x < 2 ^ 16) (hy : y < 2 ^ 16) (hu : u < 2 ^ 16) (hv : v < 2 ^ 16) :
    Z.cutI 32 (((Z.extV 16 32 true (x : Int)).toNat * (Z.extV 16 32 true (y : Int)).toNat % 2 ^ 32 : Nat) + ((Z.extV 16 32 true (u : Int)).toNat * (Z.extV 16 32 true (v : Int)).toNat % 2 ^ 32 : Nat))
      = Z.cutI 32 (Ints.wo 16 (x : Int) * Ints.wo 16 (y : Int) + Ints.wo 16 (u : Int) * Ints.wo 16 (v : Int)) := by
  have ex := (extv_lt (f := 16) (t := 32) (by decide) true hx).2
  have ey := (extv_lt (f := 16) (t := 32) (by decide) true hy).2
  have eu := (extv_lt (f := 16) (t := 32) (by decide) true hu).2
  have ev := (extv_lt (f := 16) (t := 32) (by decide) true hv).2
  have cc : ∀ X Y : Nat, ((X * Y % 2 ^ 32 : Nat) : Int) = (X : Int) * (Y : Int) % 2 ^ 32 := fun X Y => by rw [Int.natCast_emod, Int.natCast_mul, Int.natCast_pow]; rfl
  have hE : ∀ x : Int, Z.extV 16 32 true x = Ints.wo 16 x % 2 ^ 32 := fun x => rfl
  rw [cc, cc, ex, ey, eu, ev, hE, hE, hE, hE]
  unfold Z.cutI
  exact dot_mod _ _ _ _ _
end Go.Proofs.YtoihfmammmkloaaDoor
