/-
  The landed types.Global, Table, Limits.
-/
import Derived.Test.YteacjhmbamcegabTcOne
import Derived.Test.YteacjhmbamcegabTypTab
import Derived.Test.YteacjhmbamcegabTypSame
set_option linter.unusedVariables false
set_option linter.unusedSimpArgs false
namespace Go.Proofs.Yteacjhmbamcegab
open Go.RowKit Typ

theorem flagAt_cases {l : List Int} (hb : ∀ i : Nat, 0 ≤ l[i]?.getD 0 ∧ l[i]?.getD 0 ≤ 255) (p : Int) : (∃ x, (x = 2 ∨ x = 4) ∧ (x = 2 ↔ (p < 0 ∨ (l.length : Int) < p)) ∧ (x = 4 → (0 ≤ p ∧ p ≤ l.length) ∧ (p = l.length ∨ 1 < l[p.toNat]?.getD 0)) ∧ flagAt l p = (false, 0, x)) ∨
    ∃ q : Nat, p = (q : Int) ∧ q < l.length ∧ ((l[q]?.getD 0 = 0 ∧ flagAt l p = (false, ((q + 1 : Nat) : Int), 0)) ∨ (l[q]?.getD 0 = 1 ∧ flagAt l p = (true, ((q + 1 : Nat) : Int), 0))) := by
  rcases oneAt_cases l p with ⟨x, hx, hi, h⟩ | ⟨q, rfl, hq, h⟩
  · refine .inl ⟨x, hx, hi, ?_, by unfold flagAt; rw [h]; simp only; rw [if_pos (by omega)]⟩
    intro h4
    have hn : ¬ (p < 0 ∨ (l.length : Int) < p) := fun c => by have := hi.2 c; omega
    refine ⟨by omega, .inl ?_⟩
    unfold oneAt at h
    rw [if_neg hn] at h
    by_cases d : p = l.length
    · exact d
    · rw [if_neg d] at h
      simp at h
      omega
  · have hb0 := hb q
    by_cases big : 1 < l[q]?.getD 0
    · exact .inl ⟨4, .inr rfl, by omega, fun _ => ⟨by omega, .inr (by simpa using big)⟩, by unfold flagAt; rw [h]; simp only; rw [if_neg (by simp), if_pos big]⟩
    · refine .inr ⟨q, rfl, hq, ?_⟩
      rcases (show l[q]?.getD 0 = 0 ∨ l[q]?.getD 0 = 1 by omega) with hx | hx
      · exact .inl ⟨hx, by unfold flagAt; rw [h]; simp only; rw [if_neg (by simp), if_neg big, hx]; rfl⟩
      · exact .inr ⟨hx, by unfold flagAt; rw [h]; simp only; rw [if_neg (by simp), if_neg big, hx]; rfl⟩

theorem globAt_flag {l : List Int} (hb : ∀ i : Nat, 0 ≤ l[i]?.getD 0 ∧ l[i]?.getD 0 ≤ 255) (p : Int) : globAt l p =
    if (valAt l p).2.2 ≠ 0 then ((0, false), 0, (valAt l p).2.2) else if (flagAt l (valAt l p).2.1).2.2 ≠ 0 then ((0, false), 0, (flagAt l (valAt l p).2.1).2.2) else (((valAt l p).1, (flagAt l (valAt l p).2.1).1), (flagAt l (valAt l p).2.1).2.1, 0) := by
  rcases valAt_cases l p with ⟨x, hx, h⟩ | ⟨q, rfl, hq, ht, h⟩
  · unfold globAt
    rw [h]
    simp only
    rw [if_pos (by omega), if_pos (by omega)]
  · unfold globAt
    rw [h]
    simp only [Int.toNat_natCast, ne_eq, not_true_eq_false, if_false]
    rcases flagAt_cases hb ((q + 1 : Nat) : Int) with ⟨x, hx, hi, h4, hf⟩ | ⟨r, hr, hlt, ⟨hy, hf⟩ | ⟨hy, hf⟩⟩
    · rw [hf]
      simp only
      have hx4 : x = 4 := by
        rcases hx with rfl | rfl
        · have := hi.1 rfl; omega
        · rfl
      subst hx4
      have h5 := (h4 rfl).2
      simp only [Int.toNat_natCast] at h5
      rw [if_pos h5]
      simp
    · have : r = q + 1 := by omega
      subst this
      rw [hf, hy]
      simp only
      rw [if_neg (by omega)]
      simp
    · have : r = q + 1 := by omega
      subst this
      rw [hf, hy]
      simp only
      rw [if_neg (by omega)]
      simp

theorem limAt_flag {l : List Int} (hb : ∀ i : Nat, 0 ≤ l[i]?.getD 0 ∧ l[i]?.getD 0 ≤ 255) (p : Int) : limAt l p =
    if (flagAt l p).2.2 ≠ 0 then ((0, 0, false), 0, (flagAt l p).2.2) else if (Leb.readU l (flagAt l p).2.1 32).2.2 ≠ 0 then ((0, 0, false), 0, (Leb.readU l (flagAt l p).2.1 32).2.2)
    else if (flagAt l p).1 = false then (((Leb.readU l (flagAt l p).2.1 32).1, 0, false), (Leb.readU l (flagAt l p).2.1 32).2.1, 0)
    else if (Leb.readU l (Leb.readU l (flagAt l p).2.1 32).2.1 32).2.2 ≠ 0 then ((0, 0, false), 0, (Leb.readU l (Leb.readU l (flagAt l p).2.1 32).2.1 32).2.2)
    else (((Leb.readU l (flagAt l p).2.1 32).1, (Leb.readU l (Leb.readU l (flagAt l p).2.1 32).2.1 32).1, true), (Leb.readU l (Leb.readU l (flagAt l p).2.1 32).2.1 32).2.1, 0) := by
  rcases flagAt_cases hb p with ⟨x, hx, hi, h4, hf⟩ | ⟨q, rfl, hlt, hor⟩
  · rw [hf]
    simp only
    rw [if_pos (by omega)]
    rcases hx with rfl | rfl
    · rw [limAt_bad (hi.1 rfl)]
    · obtain ⟨hr, hend | hbig⟩ := h4 rfl
      · rw [hend, limAt_end]
      · obtain ⟨q, rfl⟩ : ∃ q : Nat, p = (q : Int) := ⟨p.toNat, by omega⟩
        by_cases c : q < l.length
        · rw [limAt_big c (by simpa using hbig)]
        · have : q = l.length := by omega
          rw [this, limAt_end]
  · rcases readU_in (l := l) (p := (q : Int) + 1) (by omega) (by omega) with hr | ⟨N, f, hr, hN, hf1, hf2⟩
    · rcases hor with ⟨hy, hf⟩ | ⟨hy, hf⟩ <;>
      · rw [hf, limAt_err hlt hr]
        simp only
        rw [show (((q + 1 : Nat) : Int)) = (q : Int) + 1 by omega, hr]
        simp
    · rcases hor with ⟨hy, hf⟩ | ⟨hy, hf⟩
      · rw [hf, limAt_one hlt hy hr]
        simp only
        rw [show (((q + 1 : Nat) : Int)) = (q : Int) + 1 by omega, hr]
        simp
      · rw [hf]
        simp only
        rw [show (((q + 1 : Nat) : Int)) = (q : Int) + 1 by omega, hr]
        simp only
        rcases readU_in (l := l) (p := (f : Int)) (by omega) (by omega) with hr2 | ⟨M, g, hr2, hM, hg1, hg2⟩
        · rw [limAt_err2 hlt hy hr hr2, hr2]
          simp
        · rw [limAt_two hlt hy hr hr2, hr2]
          simp
theorem readU_32 (l : List Int) (p : Int) : IntKind.u32.wrap (Leb.readU l p 32).1 = (Leb.readU l p 32).1 := by
  rcases readU_parts l p with ⟨x, _, h⟩ | ⟨N, f, h, hN, _, _⟩
  · rw [h]; show IntKind.u32.wrap 0 = 0; rfl
  · rw [h]; exact wrap_32 hN

theorem U_below (a : Option Addr) (len cap : Nat) (l : List Int) (p wd : Int) (w : World) (H : Row w a len cap l) :
    Calls Try.prog 29 #[.slice a len cap, .int .i64 p, .int .i64 wd] w fun e w' => e = .returned (triU (Leb.readU l p wd)) ∧ Below w.heap.size w w' :=
  (U_calls a len cap l p wd w H).mono fun e w' ⟨he, n, hw⟩ => ⟨he, by rw [hw]; exact below_drewNq (Below.refl _ _) _⟩
end Go.Proofs.Yteacjhmbamcegab
