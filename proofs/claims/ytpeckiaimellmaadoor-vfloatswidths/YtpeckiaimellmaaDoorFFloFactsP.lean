/-
  What follows of the answers: plain (genflo.py wrote it).
-/
import Derived.Test.YtpeckiaimellmaaDoorFFloLaw2P
set_option linter.unusedVariables false
set_option linter.unusedSimpArgs false
namespace Go.Proofs.YtpeckiaimellmaaDoor.F
open Go.RowKit Flo

theorem rung_of_lt {f : Ieee.Format} {r : Nat} (h : r < f.signWeight) : rung f r = r := Nat.mod_eq_of_lt h
theorem rungSign {w : Nat} (b : Nat) {r : Nat} (h : r < signN w) : rung (fm w) (signOf w b + r) = r := by
  rw [← word_sign (w := w) _ b r rfl]; exact rung_word _ _ h
theorem negSign {w : Nat} (b : Nat) {r : Nat} (h : r < signN w) : neg (fm w) (signOf w b + r) = neg (fm w) b := by
  rw [← word_sign (w := w) _ b r rfl]; exact neg_word _ _ h
theorem signSum_lt {w : Nat} (hw : IsW w) (b : Nat) {r : Nat} (h : r < signN w) : signOf w b + r < 2 ^ w := by
  have := two_sign hw
  rcases signOf_cases w b with e | e <;> rw [e] <;> omega
theorem rung_lt_pow {w : Nat} (hw : IsW w) (a : Nat) : rung (fm w) a < 2 ^ w := by
  have : rung (fm w) a < signN w := rung_lt _ _
  have := two_sign hw
  omega
theorem nan_lt_pow {w : Nat} (hw : IsW w) : nanN w < 2 ^ w := by have := nan_lt hw; have := two_sign hw; omega
theorem inf_lt {w : Nat} : (fm w).infRung < signN w := inf_lt_sw _

theorem arN_fine {op w a b : Nat} (hw : IsW w) (h1 : 1 ≤ op) (h2 : op ≤ 4) : arN op w a b < 2 ^ w ∧ (na w (arN op w a b) = true → arN op w a b = nanN w) := by
  rw [← floatBits_ar op w a b h1 h2]
  cases h : floatBits (binOf op) (kindOf w) a b with
  | none => exact ⟨nan_lt_pow hw, fun _ => rfl⟩
  | some r =>
    obtain ⟨h3, h4⟩ := floatBits_fine h
    rw [width_fm hw] at h4
    refine ⟨h4, fun c => ?_⟩
    exfalso
    have := na_true c
    simp only [Option.getD_some] at this
    omega
theorem bit_lt {w a b : Nat} (ha : a < 2 ^ w) (hb : b < 2 ^ w) : a ||| b < 2 ^ w ∧ a &&& b < 2 ^ w := ⟨Nat.or_lt_two_pow ha hb, Nat.lt_of_le_of_lt Nat.and_le_left ha⟩
/-- The same place: the same, or both 0. -/
theorem same_cases {w a b : Nat} (hw : IsW w) (ha : a < 2 ^ w) (hb : b < 2 ^ w) (h : place (fm w) a = place (fm w) b) : a = b ∨ (rung (fm w) a = 0 ∧ rung (fm w) b = 0) := by
  have e1 := parts hw ha
  have e2 := parts hw hb
  unfold place sgn at h
  unfold signOf at e1 e2
  cases n1 : neg (fm w) a <;> cases n2 : neg (fm w) b <;> simp [n1, n2] at h e1 e2
  · left; omega
  · right; omega
  · right; omega
  · left; omega
theorem zero_sign {w a : Nat} (hw : IsW w) (ha : a < 2 ^ w) (h : rung (fm w) a = 0) : a = 0 ∨ a = signN w := by
  have e1 := parts hw ha
  rcases signOf_cases w a with e | e <;> rw [e, h] at e1 <;> omega
theorem na_zero (w : Nat) : na w 0 = false ∧ na w (signN w) = false := by
  have h := inf_lt (w := w)
  constructor
  · have := na_sum (w := w) (a := 0) (r := 0) (by omega)
    have e : signOf w 0 = 0 := by unfold signOf; rw [neg_self (sign_pos _)]; rfl
    rw [e] at this
    exact this
  · unfold na
    have : rung (fm w) (signN w) = 0 := Nat.mod_self _
    rw [this]
    exact decide_eq_false (by omega)
/-- Of two that are the same, or and and are these two. -/
theorem or_and {w a b : Nat} (hw : IsW w) (ha : a < 2 ^ w) (hb : b < 2 ^ w) (h : place (fm w) a = place (fm w) b) : (a ||| b = a ∧ a &&& b = b) ∨ (a ||| b = b ∧ a &&& b = a) := by
  rcases same_cases hw ha hb h with e | ⟨e1, e2⟩
  · subst e; left; simp
  · rcases zero_sign hw ha e1 with e | e <;> rcases zero_sign hw hb e2 with e' | e' <;> subst e <;> subst e'
    · left; simp
    · right; simp
    · left; simp
    · left; simp
theorem leastN_cases {w a b : Nat} (low : Bool) (hw : IsW w) (ha : a < 2 ^ w) (hb : b < 2 ^ w) : ((na w a = true ∨ na w b = true) ∧ leastN low w a b = nanN w) ∨ (na w a = false ∧ na w b = false ∧ (leastN low w a b = a ∨ leastN low w a b = b)) := by
  unfold leastN
  cases h1 : na w a
  · cases h2 : na w b
    · right
      refine ⟨rfl, rfl, ?_⟩
      simp only [Bool.or_self, Bool.false_eq_true, if_false]
      cases hs : sameN w a b
      · simp only [Bool.false_eq_true, if_false]
        split
        · exact .inl rfl
        · exact .inr rfl
      · simp only [if_true]
        have hp : place (fm w) a = place (fm w) b := by
          unfold sameN at hs
          simp [h1, h2] at hs
          exact hs
        rcases or_and hw ha hb hp with ⟨x, y⟩ | ⟨x, y⟩ <;> cases low <;> simp [x, y]
    · left; simp
  · left; simp
theorem leastN_fine {w a b : Nat} (low : Bool) (hw : IsW w) (ha : a < 2 ^ w) (hb : b < 2 ^ w) : leastN low w a b < 2 ^ w ∧ (na w (leastN low w a b) = true → leastN low w a b = nanN w) := by
  rcases leastN_cases low hw ha hb with ⟨_, e⟩ | ⟨h1, h2, e | e⟩ <;> rw [e]
  · exact ⟨nan_lt_pow hw, fun _ => rfl⟩
  · exact ⟨ha, fun h => by rw [h1] at h; cases h⟩
  · exact ⟨hb, fun h => by rw [h2] at h; cases h⟩
theorem rndN_num {w a : Nat} (way : Ieee.Toward) (h : na w a = false) : rndN way w a = signOf w a + roundF (fm w) way (neg (fm w) a) (rung (fm w) a) := by unfold rndN; rw [h]; rfl
theorem rndN_nan {w a : Nat} (way : Ieee.Toward) (h : na w a = true) : rndN way w a = nanN w := by unfold rndN; rw [h]; rfl
theorem round_lt_sign {w a : Nat} (way : Ieee.Toward) (s : Bool) (h : na w a = false) : roundF (fm w) way s (rung (fm w) a) < signN w := Nat.lt_of_le_of_lt (round_rung_le way s h) inf_lt
theorem rndN_fine {w a : Nat} (way : Ieee.Toward) (hw : IsW w) : rndN way w a < 2 ^ w ∧ na w (rndN way w a) = na w a ∧ (na w (rndN way w a) = true → rndN way w a = nanN w) := by
  cases h : na w a with
  | true => rw [rndN_nan way h]; exact ⟨nan_lt_pow hw, na_nan hw, fun _ => rfl⟩
  | false =>
    rw [rndN_num way h]
    have e := na_sum (w := w) (a := a) (round_rung_le way (neg (fm w) a) h)
    exact ⟨signSum_lt hw a (round_lt_sign way _ h), e, fun c => by rw [e] at c; cases c⟩
theorem rootN_fine {w a : Nat} (hw : IsW w) : rootN w a < 2 ^ w ∧ (na w (rootN w a) = true → rootN w a = nanN w) := by
  unfold rootN
  split
  · exact ⟨nan_lt_pow hw, fun _ => rfl⟩
  · have e := na_sum (w := w) (a := a) (sqN_le w (rung (fm w) a))
    exact ⟨signSum_lt hw a (Nat.lt_of_le_of_lt (sqN_le w _) inf_lt), fun c => by rw [e] at c; cases c⟩
theorem two_fine {op w a b : Nat} (hw : IsW w) (ha : a < 2 ^ w) (hb : b < 2 ^ w) (h1 : 1 ≤ op) (h2 : op ≤ 6) : ∃ x, two op w a b = (x, 0) ∧ x < 2 ^ w ∧ (na w x = true → x = nanN w) := by
  rcases (show op = 1 ∨ op = 2 ∨ op = 3 ∨ op = 4 ∨ op = 5 ∨ op = 6 by omega) with rfl | rfl | rfl | rfl | rfl | rfl
  · exact ⟨_, rfl, arN_fine hw (by decide) (by decide)⟩
  · exact ⟨_, rfl, arN_fine hw (by decide) (by decide)⟩
  · exact ⟨_, rfl, arN_fine hw (by decide) (by decide)⟩
  · exact ⟨_, rfl, arN_fine hw (by decide) (by decide)⟩
  · exact ⟨_, rfl, leastN_fine true hw ha hb⟩
  · exact ⟨_, rfl, leastN_fine false hw ha hb⟩
theorem one_fine {op w a : Nat} (hw : IsW w) (h1 : 12 ≤ op) (h2 : op ≤ 16) : ∃ x, one op w a = (x, 0) ∧ x < 2 ^ w ∧ (na w x = true → x = nanN w) := by
  rcases (show op = 12 ∨ op = 13 ∨ op = 14 ∨ op = 15 ∨ op = 16 by omega) with rfl | rfl | rfl | rfl | rfl
  · exact ⟨_, rfl, rootN_fine hw⟩
  · exact ⟨_, rfl, (rndN_fine .up hw).1, (rndN_fine .up hw).2.2⟩
  · exact ⟨_, rfl, (rndN_fine .down hw).1, (rndN_fine .down hw).2.2⟩
  · exact ⟨_, rfl, (rndN_fine .zero hw).1, (rndN_fine .zero hw).2.2⟩
  · exact ⟨_, rfl, (rndN_fine .even hw).1, (rndN_fine .even hw).2.2⟩

/-! sums and products in both orders; differences -/

theorem sum_comm (c d : Ieee.Datum) : c.sum d = d.sum c := by
  unfold Ieee.Datum.sum
  cases c <;> cases d <;> simp only
  · rename_i s m i t n j
    rw [Int.min_comm j i, Int.add_comm (Ieee.signed t n _), Bool.and_comm t s]
  · rename_i s t
    by_cases h : s = t
    · subst h; rfl
    · rw [if_neg h, if_neg (fun e => h e.symm)]
theorem product_comm (c d : Ieee.Datum) : c.product d = d.product c := by
  unfold Ieee.Datum.product
  cases c <;> cases d <;> simp only
  · rename_i s m i t n j
    rw [Nat.mul_comm n m, Int.add_comm j i, Bool.xor_comm t s]
  · rename_i s t
    rw [Bool.xor_comm]
theorem add_comm' (f : Ieee.Format) (x y : Nat) : f.add x y = f.add y x := by unfold Ieee.Format.add; rw [sum_comm]
theorem mul_comm' (f : Ieee.Format) (x y : Nat) : f.mul x y = f.mul y x := by unfold Ieee.Format.mul; rw [product_comm]

theorem flip_rung {w a : Nat} (hw : IsW w) (ha : a < 2 ^ w) : rung (fm w) (flip w a) = rung (fm w) a := by
  rw [flip_word hw ha]; exact rung_word _ _ (rung_lt _ _)
theorem flip_neg {w a : Nat} (hw : IsW w) (ha : a < 2 ^ w) : neg (fm w) (flip w a) = !neg (fm w) a := by
  rw [flip_word hw ha]; exact neg_word _ _ (rung_lt _ _)
theorem flip_flip {w a : Nat} (hw : IsW w) (ha : a < 2 ^ w) : flip w (flip w a) = a := by
  rw [flip_word hw (flip_lt hw ha), flip_rung hw ha, flip_neg hw ha, Bool.not_not]
  exact word_parts (fm w) (by rw [width_fm hw]; exact ha)
theorem read_flip {w a : Nat} (hw : IsW w) (ha : a < 2 ^ w) : (fm w).read (flip w a) = ((fm w).read a).opposite := by
  have hr := flip_rung hw ha
  have hn := flip_neg hw ha
  rcases Nat.lt_trichotomy (rung (fm w) a) (fm w).infRung with c | c | c
  · obtain ⟨m, k, _, _, _, h⟩ := parts_of (good w) c
    rw [h a rfl, h _ hr, hn]; rfl
  · rw [read_inf (good w) c, read_inf (good w) (hr.trans c), hn]; rfl
  · rw [read_nan (good w) c, read_nan (good w) (by rw [hr]; exact c), hn, hr]; rfl
theorem sub_add {w a b : Nat} (hw : IsW w) (hb : b < 2 ^ w) : (fm w).sub a b = (fm w).add a (flip w b) := by
  unfold Ieee.Format.sub Ieee.Format.add
  rw [read_flip hw hb]
end Go.Proofs.YtpeckiaimellmaaDoor.F
