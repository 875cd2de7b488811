/-
  The document's Val, list.
-/
import Derived.Test.YteacjhmbamcegaaTypSmall
import Derived.Test.YteacjhmbamcegaaRefReads
import Derived.Maps.AppendAt
set_option linter.unusedVariables false
set_option linter.unusedSimpArgs false
namespace Go.Proofs.Yteacjhmbamcegaa
open Go.RowKit Typ

def triV (r : Int × Int × Int) : Value := .tuple #[.int .u8 r.1, .int .i64 r.2.1, .int .i64 r.2.2]

theorem valAt_bad {l : List Int} {p : Int} (h : p < 0 ∨ (l.length : Int) < p) : valAt l p = (0, 0, 2) := by unfold valAt; rw [if_pos h]
theorem valAt_end (l : List Int) : valAt l (l.length : Int) = (0, 0, 4) := by unfold valAt; rw [if_neg (by omega), if_pos (.inl rfl)]
theorem valAt_in {l : List Int} {q : Nat} (h : q < l.length) : valAt l (q : Int) = if isT (l[q]?.getD 0) then (l[q]?.getD 0, (q : Int) + 1, 0) else (0, 0, 4) := by
  unfold valAt
  rw [if_neg (by omega)]
  simp only [Int.toNat_natCast]
  cases isT (l[q]?.getD 0) with
  | true => rw [if_neg (by simp; omega)]; rfl
  | false => rw [if_pos (.inr rfl)]; rfl

set_option maxHeartbeats 1000000 in
theorem rVal_calls (a : Option Addr) (len cap : Nat) (l : List Int) (p : Int) (w : World) (H : Row w a len cap l) :
    Calls Try.prog 30 #[.slice a len cap, .int .i64 p] w fun e w' => e = .returned (triV (valAt l p)) ∧ w' = w := by
  obtain ⟨hl, hcap, hcm, hb, ha, hc⟩ := H
  unfold maxLen at hcm
  unfold triV
  by_cases c1 : p < 0
  · have e1 : decide (p < 0) = true := by simp [c1]
    have E : Hid (valAt l p = (0, 0, 2)) := hideT (valAt_bad (.inl c1))
    clear c1 hc hb ha
    go_enter Try.func30, Try.ntmps30
    go_wp2
    refine bodyPost_ret (v := .tuple #[.int .u8 0, .int .i64 0, .int .i64 2]) (by simp [results, Try.results30, go_sem]) rfl ?_
    exact ⟨by rw [E.out], rfl⟩
  · by_cases c2 : (len : Int) < p
    · have e1 : decide (p < 0) = false := by simp; omega
      have E : Hid (valAt l p = (0, 0, 2)) := hideT (valAt_bad (.inr (by rw [hl]; exact c2)))
      clear c1 hc hb ha
      go_enter Try.func30, Try.ntmps30
      go_wp2
      refine bodyPost_ret (v := .tuple #[.int .u8 0, .int .i64 0, .int .i64 2]) (by simp [results, Try.results30, go_sem]) rfl ?_
      exact ⟨by rw [E.out], rfl⟩
    · obtain ⟨q, rfl⟩ : ∃ q : Nat, p = (q : Int) := ⟨p.toNat, by omega⟩
      have hq : q ≤ len := by omega
      by_cases c3 : q = len
      · subst c3
        have E : Hid (valAt l (q : Int) = (0, 0, 4)) := hideT (by have := valAt_end l; rw [hl] at this; exact this)
        clear c1 c2 hc hb ha
        go_enter Try.func30, Try.ntmps30
        go_wp2
        refine bodyPost_ret (v := .tuple #[.int .u8 0, .int .i64 0, .int .i64 4]) (by simp [results, Try.results30, go_sem]) rfl ?_
        exact ⟨by rw [E.out], rfl⟩
      · have hlt : q < len := by omega
        obtain ⟨b, off, rfl, hcell⟩ := hc (by omega)
        have h1 := hcell q hlt
        have E := valAt_in (l := l) (q := q) (by omega)
        have n1 : ((q : Int) == (len : Int)) = false := by simp; omega
        have m1 : q + 1 ≤ len := by omega
        have m2 : len ≤ 2 ^ 63 - 1 := by omega
        have C := rIs_calls (l[q]?.getD 0)
        clear hc hcell hb ha c1 c2 c3
        generalize l[q]?.getD 0 = x at *
        cases ht : isT x with
        | true =>
          rw [ht] at C E
          rw [if_pos rfl] at E
          have C := hideT C
          have E := hideT E
          clear ht
          go_enter Try.func30, Try.ntmps30
          go_wp2_with ((with_reducible refine (C.out _).mono ?_); rintro e w1 ⟨rfl, rfl⟩)
          refine bodyPost_ret (v := .tuple #[.int .u8 x, .int .i64 ((q : Int) + 1), .int .i64 0]) (by simp [results, Try.results30, go_sem]) rfl ?_
          exact ⟨by rw [E.out], rfl⟩
        | false =>
          rw [ht] at C E
          rw [if_neg (by decide)] at E
          have C := hideT C
          have E := hideT E
          clear ht
          go_enter Try.func30, Try.ntmps30
          go_wp2_with ((with_reducible refine (C.out _).mono ?_); rintro e w1 ⟨rfl, rfl⟩)
          refine bodyPost_ret (v := .tuple #[.int .u8 0, .int .i64 0, .int .i64 4]) (by simp [results, Try.results30, go_sem]) rfl ?_
          exact ⟨by rw [E.out], rfl⟩
end Go.Proofs.Yteacjhmbamcegaa
