/-
  The landed types.one, flag, Val, Global.
-/
import Derived.Test.YteacjhmbamcegabTypGlob
import Derived.Test.YteacjhmbamcegabTcSmall
set_option linter.unusedVariables false
set_option linter.unusedSimpArgs false
namespace Go.Proofs.Yteacjhmbamcegab
open Go.RowKit Typ

/-- The byte at a place, the place behind, the error. -/
def oneAt (l : List Int) (p : Int) : Int × Int × Int := if p < 0 ∨ (l.length : Int) < p then (0, 0, 2) else if p = l.length then (0, 0, 4) else (l[p.toNat]?.getD 0, p + 1, 0)
def flagAt (l : List Int) (p : Int) : Bool × Int × Int := if (oneAt l p).2.2 ≠ 0 then (false, 0, (oneAt l p).2.2) else if 1 < (oneAt l p).1 then (false, 0, 4) else ((oneAt l p).1 == 1, (oneAt l p).2.1, 0)
def bv8 (r : Int × Int × Int) : Value := .tuple #[.int .u8 r.1, .int .i64 r.2.1, .int .i64 r.2.2]
def bvB (r : Bool × Int × Int) : Value := .tuple #[.bool r.1, .int .i64 r.2.1, .int .i64 r.2.2]
theorem oneAt_cases (l : List Int) (p : Int) : (∃ x, (x = 2 ∨ x = 4) ∧ (x = 2 ↔ (p < 0 ∨ (l.length : Int) < p)) ∧ oneAt l p = (0, 0, x)) ∨ ∃ q : Nat, p = (q : Int) ∧ q < l.length ∧ oneAt l p = (l[q]?.getD 0, ((q + 1 : Nat) : Int), 0) := by
  unfold oneAt
  by_cases c1 : p < 0 ∨ (l.length : Int) < p
  · exact .inl ⟨2, .inl rfl, by simp [c1], by rw [if_pos c1]⟩
  · rw [if_neg c1]
    by_cases c2 : p = l.length
    · exact .inl ⟨4, .inr rfl, by simp only [c1, iff_false]; decide, by rw [if_pos c2]⟩
    · rw [if_neg c2]
      exact .inr ⟨p.toNat, by omega, by omega, by
        have : p = (p.toNat : Int) := by omega
        simp only [Prod.mk.injEq, true_and, and_true]
        omega⟩

set_option maxHeartbeats 1000000 in
theorem one_calls (a : Option Addr) (len cap : Nat) (l : List Int) (p : Int) (w : World) (H : Row w a len cap l) :
    Calls Try.prog 24 #[.slice a len cap, .int .i64 p] w fun e w' => e = .returned (bv8 (oneAt l p)) ∧ w' = w := by
  obtain ⟨hl, hcap, hcm, hb, ha, hc⟩ := H
  unfold maxLen at hcm
  unfold bv8
  by_cases c1 : p < 0
  · have e1 : decide (p < 0) = true := by simp [c1]
    have E : Hid (oneAt l p = (0, 0, 2)) := hideT (by unfold oneAt; rw [if_pos (.inl c1)])
    clear c1 hc hb ha
    go_enter Try.func24, Try.ntmps24
    go_wp2
    refine bodyPost_ret (v := .tuple #[.int .u8 0, .int .i64 0, .int .i64 2]) (by simp [results, Try.results24, go_sem]) rfl ?_
    exact ⟨by rw [E.out], rfl⟩
  · by_cases c2 : (len : Int) < p
    · have e1 : decide (p < 0) = false := by simp; omega
      have e2 : decide ((len : Int) < p) = true := by simp [c2]
      have E : Hid (oneAt l p = (0, 0, 2)) := hideT (by unfold oneAt; rw [if_pos (.inr (by rw [hl]; exact c2))])
      clear c1 hc hb ha
      go_enter Try.func24, Try.ntmps24
      go_wp2
      refine bodyPost_ret (v := .tuple #[.int .u8 0, .int .i64 0, .int .i64 2]) (by simp [results, Try.results24, go_sem]) rfl ?_
      exact ⟨by rw [E.out], rfl⟩
    · obtain ⟨q, rfl⟩ : ∃ q : Nat, p = (q : Int) := ⟨p.toNat, by omega⟩
      have hq : q ≤ len := by omega
      by_cases c3 : q = len
      · subst c3
        have E : Hid (oneAt l (q : Int) = (0, 0, 4)) := hideT (by unfold oneAt; rw [if_neg (by omega), if_pos (by omega)])
        clear c1 c2 hc hb ha
        go_enter Try.func24, Try.ntmps24
        go_wp2
        refine bodyPost_ret (v := .tuple #[.int .u8 0, .int .i64 0, .int .i64 4]) (by simp [results, Try.results24, go_sem]) rfl ?_
        exact ⟨by rw [E.out], rfl⟩
      · have hlt : q < len := by omega
        obtain ⟨b, off, rfl, hcell⟩ := hc (by omega)
        have h1 := hcell q hlt
        have E : Hid (oneAt l (q : Int) = (l[q]?.getD 0, (q : Int) + 1, 0)) := hideT (by unfold oneAt; rw [if_neg (by omega), if_neg (by omega)]; simp)
        have n1 : ((q : Int) == (len : Int)) = false := by simp; omega
        have e2 : decide ((len : Int) < (q : Int)) = false := by simp; omega
        have m1 : q + 1 ≤ len := by omega
        have m2 : len ≤ 2 ^ 63 - 1 := by omega
        clear hc hcell hb ha c1 c2 c3
        generalize l[q]?.getD 0 = x at *
        go_enter Try.func24, Try.ntmps24
        go_wp2
        refine bodyPost_ret (v := .tuple #[.int .u8 x, .int .i64 ((q : Int) + 1), .int .i64 0]) (by simp [results, Try.results24, go_sem]) rfl ?_
        exact ⟨by rw [E.out], rfl⟩

theorem oneAt_nonneg {w : World} {a : Option Addr} {len cap : Nat} {l : List Int} (H : Row w a len cap l) (p : Int) : 0 ≤ (oneAt l p).1 := by
  obtain ⟨hl, hcap, hcm, hb, ha, hc⟩ := H
  rcases oneAt_cases l p with ⟨x, _, _, h⟩ | ⟨q, rfl, hq, h⟩
  · rw [h]; simp
  · rw [h]; exact (hb q).1
theorem val_walk (a : Option Addr) (len cap : Nat) (p y nx er : Int) (w : World)
    (C : Hid (Calls Try.prog 24 #[.slice a len cap, .int .i64 p] w fun e w' => e = .returned (.tuple #[.int .u8 y, .int .i64 nx, .int .i64 er]) ∧ w' = w)) :
    Calls Try.prog 30 #[.slice a len cap, .int .i64 p] w fun e w' =>
      e = .returned (triV (if er ≠ 0 then (0, 0, er) else if isT y = false then (0, 0, 4) else (y, nx, 0))) ∧ w' = w := by
  unfold triV
  by_cases h0 : er = 0
  · subst h0
    rw [if_neg (by simp)]
    have D := tIs_calls y
    cases ht : isT y with
    | false =>
      rw [if_pos rfl]
      rw [ht] at D
      have D := hideT D
      clear ht
      go_enter Try.func30, Try.ntmps30
      go_wp2_with (first | ((with_reducible refine C.out.mono ?_); rintro e w1 ⟨rfl, hw1⟩; subst hw1) | ((with_reducible refine (D.out _).mono ?_); rintro e w1 ⟨rfl, hw1⟩; subst hw1))
      refine bodyPost_ret (v := .tuple #[.int .u8 0, .int .i64 0, .int .i64 4]) (by simp [results, Try.results30, go_sem]) rfl ?_
      exact ⟨rfl, rfl⟩
    | true =>
      rw [if_neg (by decide)]
      rw [ht] at D
      have D := hideT D
      clear ht
      go_enter Try.func30, Try.ntmps30
      go_wp2_with (first | ((with_reducible refine C.out.mono ?_); rintro e w1 ⟨rfl, hw1⟩; subst hw1) | ((with_reducible refine (D.out _).mono ?_); rintro e w1 ⟨rfl, hw1⟩; subst hw1))
      refine bodyPost_ret (v := .tuple #[.int .u8 y, .int .i64 nx, .int .i64 0]) (by simp [results, Try.results30, go_sem]) rfl ?_
      exact ⟨rfl, rfl⟩
  · rw [if_pos h0]
    have t0 : (er != 0) = true := by simp [h0]
    go_enter Try.func30, Try.ntmps30
    go_wp2_with ((with_reducible refine C.out.mono ?_); rintro e w1 ⟨rfl, hw1⟩; subst hw1)
    refine bodyPost_ret (v := .tuple #[.int .u8 0, .int .i64 0, .int .i64 er]) (by simp [results, Try.results30, go_sem]) rfl ?_
    exact ⟨rfl, rfl⟩
theorem valAt_one (l : List Int) (p : Int) : valAt l p = if (oneAt l p).2.2 ≠ 0 then (0, 0, (oneAt l p).2.2) else if isT (oneAt l p).1 = false then (0, 0, 4) else ((oneAt l p).1, (oneAt l p).2.1, 0) := by
  rcases oneAt_cases l p with ⟨x, hx, hi, h⟩ | ⟨q, rfl, hq, h⟩
  · rw [h]
    simp only
    rw [if_pos (by omega)]
    by_cases c : p < 0 ∨ (l.length : Int) < p
    · rw [valAt_bad c, hi.2 c]
    · have : p = l.length := by
        unfold oneAt at h
        rw [if_neg c] at h
        by_cases d : p = l.length
        · exact d
        · rw [if_neg d] at h
          simp at h
          omega
      subst this
      rw [valAt_end]
      have : x ≠ 2 := fun hh => c (hi.1 hh)
      have : x = 4 := by omega
      rw [this]
  · rw [h, valAt_in hq]
    simp only
    cases isT (l[q]?.getD 0) <;> simp
theorem tVal_calls (a : Option Addr) (len cap : Nat) (l : List Int) (p : Int) (w : World) (H : Row w a len cap l) :
    Calls Try.prog 30 #[.slice a len cap, .int .i64 p] w fun e w' => e = .returned (triV (valAt l p)) ∧ w' = w := by
  rw [valAt_one]
  exact val_walk a len cap p _ _ _ w (hideT (one_calls a len cap l p w H))
end Go.Proofs.Yteacjhmbamcegab
