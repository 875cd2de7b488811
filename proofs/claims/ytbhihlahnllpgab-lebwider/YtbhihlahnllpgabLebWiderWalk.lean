/-
  The walk of the law 'LebWider'.
-/
import Derived.Test.YtbhihlahnllpgabLebWorks
namespace Go.Proofs.Ytbhihlahnllpgab
open Go.RowKit
set_option linter.unusedVariables false

set_option maxHeartbeats 400000 in
theorem wider_no (a : Option Addr) (len cap : Nat) (p wd mo : Int) (w : World) (h : wd < 1 ∨ 64 < wd ∨ mo < 0 ∨ 64 - wd < mo) :
    Calls Try.prog 4 #[.slice a len cap, .int .i64 p, .int .i64 wd, .int .i64 mo] w fun e w' => e = .returned (.bool true) ∧ Below w.heap.size w w' := by
  by_cases h1 : wd < 1
  · clear h
    go_enter Try.func4, Try.ntmps4
    go_wp2_with (go_at_call 6; refine (works_calls _).mono ?_; rintro e w' ⟨rfl, hb⟩)
    go_ret
    exact ⟨rfl, hb⟩
  by_cases h2 : 64 < wd
  · clear h
    go_enter Try.func4, Try.ntmps4
    go_wp2_with (go_at_call 6; refine (works_calls _).mono ?_; rintro e w' ⟨rfl, hb⟩)
    go_ret
    exact ⟨rfl, hb⟩
  by_cases h3 : mo < 0
  · clear h
    go_enter Try.func4, Try.ntmps4
    go_wp2_with (go_at_call 6; refine (works_calls _).mono ?_; rintro e w' ⟨rfl, hb⟩)
    go_ret
    exact ⟨rfl, hb⟩
  · have h4 : 64 - wd < mo := by omega
    clear h
    go_enter Try.func4, Try.ntmps4
    go_wp2_with (go_at_call 6; refine (works_calls _).mono ?_; rintro e w' ⟨rfl, hb⟩)
    go_ret
    exact ⟨rfl, hb⟩

set_option maxHeartbeats 1000000 in
theorem wider_yes (a : Option Addr) (len cap : Nat) (l : List Int) (p wd mo : Int) (w : World) (H : Row w a len cap l) (h1 : 1 ≤ wd) (h2 : wd ≤ 64) (h3 : 0 ≤ mo) (h4 : mo ≤ 64 - wd) 
    (n n1 n2 m m1 m2 x x1 x2 y y1 y2 : Int) (en : Leb.readU l p wd = (n, n1, n2)) (em : Leb.readU l p (wd + mo) = (m, m1, m2)) (ex : Leb.readS l p wd = (x, x1, x2)) (ey : Leb.readS l p (wd + mo) = (y, y1, y2))
    (hu : (n2 != 0) = true ∨ (n2 != 0) = false ∧ (m2 == 0) = true ∧ (m == n) = true ∧ (m1 == n1) = true)
    (hs : (x2 != 0) = true ∨ (x2 != 0) = false ∧ (y2 == 0) = true ∧ (x == y) = true ∧ (x1 == y1) = true) :
    Calls Try.prog 4 #[.slice a len cap, .int .i64 p, .int .i64 wd, .int .i64 mo] w fun e w' => e = .returned (.bool true) ∧ Below w.heap.size w w' := by
  have t1 : decide (wd < 1) = false := by simp; omega
  have t2 : decide (64 < wd) = false := by simp; omega
  have t3 : decide (mo < 0) = false := by simp; omega
  have t4 : decide (64 - wd < mo) = false := by simp; omega
  have c1 := U_calls a len cap l p wd w H
  rw [en] at c1
  have C1 := hide c1
  have c2 := fun k => U_calls a len cap l p (wd + mo) (w.drewN k) (H.drewN k)
  rw [em] at c2
  have C2 := hide c2
  have c3 := fun k => S_calls a len cap l p wd (w.drewN k) (H.drewN k)
  rw [ex] at c3
  have C3 := hide c3
  have c4 := fun k => S_calls a len cap l p (wd + mo) (w.drewN k) (H.drewN k)
  rw [ey] at c4
  have C4 := hide c4
  clear c1 c2 c3 c4 en em ex ey H
  rcases hu with hu | ⟨hu, hu1, hu2, hu3⟩ <;> rcases hs with hs | ⟨hs, hs1, hs2, hs3⟩
  all_goals
    go_enter Try.func4, Try.ntmps4
    go_wp2_with fail
    refine C1.out.mono ?_
    rintro e w1 ⟨rfl, k1, rfl⟩
    unfold triU
    go_wp2_with fail
    refine (C2.out k1).mono ?_
    rintro e w1 ⟨rfl, k2, rfl⟩
    unfold triU
    go_wp2_with fail
    refine (C3.out _).mono ?_
    rintro e w1 ⟨rfl, k3, rfl⟩
    unfold triS
    go_wp2_with fail
    refine (C4.out _).mono ?_
    rintro e w1 ⟨rfl, k4, rfl⟩
    unfold triS
    go_wp2_with (go_at_call 6; refine (works_calls _).mono ?_; rintro e w' ⟨rfl, hb⟩)
    go_ret
    exact ⟨rfl, (below_drewN (Below.refl _ _) _).trans hb⟩

theorem wider_calls (a : Option Addr) (len cap : Nat) (l : List Int) (p wd mo : Int) (w : World) (H : Row w a len cap l) :
    Calls Try.prog 4 #[.slice a len cap, .int .i64 p, .int .i64 wd, .int .i64 mo] w fun e w' => e = .returned (.bool true) ∧ Below w.heap.size w w' := by
  by_cases h : wd < 1 ∨ 64 < wd ∨ mo < 0 ∨ 64 - wd < mo
  · exact wider_no a len cap p wd mo w h
  · refine wider_yes a len cap l p wd mo w H (by omega) (by omega) (by omega) (by omega)
      (Leb.readU l p wd).1 (Leb.readU l p wd).2.1 (Leb.readU l p wd).2.2 (Leb.readU l p (wd + mo)).1 (Leb.readU l p (wd + mo)).2.1 (Leb.readU l p (wd + mo)).2.2 (Leb.readS l p wd).1 (Leb.readS l p wd).2.1 (Leb.readS l p wd).2.2 (Leb.readS l p (wd + mo)).1 (Leb.readS l p (wd + mo)).2.1 (Leb.readS l p (wd + mo)).2.2 rfl rfl rfl rfl ?_ ?_
    · rcases Leb.readU_cases l p wd with e | e | ⟨q, k, ok⟩
      · left; rw [e]; rfl
      · left; rw [e]; rfl
      · right
        rw [Leb.readU_of ok, Leb.readU_of (ok.wider (v := wd + mo) (by omega) (by omega))]
        simp
    · rcases Leb.readS_cases l p wd with e | e | ⟨q, k, ok⟩
      · left; rw [e]; rfl
      · left; rw [e]; rfl
      · right
        rw [Leb.readS_of ok, Leb.readS_of (ok.wider (v := wd + mo) (by omega) (by omega))]
        simp
end Go.Proofs.Ytbhihlahnllpgab
