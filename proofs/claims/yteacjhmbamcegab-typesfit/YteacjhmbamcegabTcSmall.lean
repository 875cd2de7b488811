/-
  The landed types.Is, IsRef, Zero, May, MayTable, Fit, FitTable, Has.
-/
import Derived.Test.YteacjhmbamcegabTypSmall
set_option linter.unusedVariables false
set_option linter.unusedSimpArgs false
namespace Go.Proofs.Yteacjhmbamcegab
open Go.RowKit Typ

set_option maxHeartbeats 1000000 in
theorem tIsRef_calls (t : Int) (W : World) : Calls Try.prog 23 #[.int .u8 t] W fun e W' => e = .returned (.bool (isR t)) ∧ W' = W := by
  cases h : isR t with
  | true =>
    rcases isR_cases h with rfl | rfl <;>
    · go_enter Try.func23, Try.ntmps23
      go_wp2
      go_ret
      exact ⟨rfl, rfl⟩
  | false =>
    obtain ⟨h1, h2⟩ := isR_not h
    have e1 : (t == 112) = false := by simp [h1]
    have e2 : (t == 111) = false := by simp [h2]
    clear h h1 h2
    go_enter Try.func23, Try.ntmps23
    go_wp2
    go_ret
    exact ⟨rfl, rfl⟩

set_option maxHeartbeats 1000000 in
theorem tIs_calls (t : Int) (W : World) : Calls Try.prog 10 #[.int .u8 t] W fun e W' => e = .returned (.bool (isT t)) ∧ W' = W := by
  cases h : isT t with
  | true =>
    rcases isT_cases h with rfl | rfl | rfl | rfl | rfl | rfl | rfl
    all_goals
      clear h
      go_enter Try.func10, Try.ntmps10
      go_wp2
      go_ret
      exact ⟨rfl, rfl⟩
  | false =>
    obtain ⟨g1, g2, g3, g4, g5, g6, g7⟩ := isT_not h
    have e1 : (t == 127) = false := by simp [g1]
    have e2 : (t == 126) = false := by simp [g2]
    have e3 : (t == 125) = false := by simp [g3]
    have e4 : (t == 124) = false := by simp [g4]
    have e5 : (t == 123) = false := by simp [g5]
    have e6 : (t == 112) = false := by simp [g6]
    have e7 : (t == 111) = false := by simp [g7]
    clear h g1 g2 g3 g4 g5 g6 g7
    go_enter Try.func10, Try.ntmps10
    go_wp2
    go_ret
    exact ⟨rfl, rfl⟩

set_option maxHeartbeats 2000000 in
theorem tFit_calls (n x n' x' : Int) (b b' : Bool) (W : World) :
    Calls Try.prog 6 #[limV n x b, limV n' x' b'] W fun e W' => e = .returned (.bool (fitL n x b n' x' b')) ∧ Below W.heap.size W W' := by
  unfold limV
  have BW : Hid (∀ o o' : Obj, Below W.heap.size W ((W.alloc o).alloc o')) := hideT (fun o o' => ((Below.refl _ _).alloc (Nat.le_refl _) _).alloc (by simp) _)
  cases c1 : decide (n < n') with
  | true =>
    have E : Hid (fitL n x b n' x' b' = false) := hideT (by
      have c1 := of_decide_eq_true c1
      unfold fitL
      simp
      omega)
    go_enter Try.func6, Try.ntmps6
    go_wp2
    go_ret
    exact ⟨by rw [E.out]; rfl, BW.out _ _⟩
  | false =>
    have k1 : n' ≤ n := by
      have c1 := of_decide_eq_false c1
      omega
    cases b' with
    | false =>
      have E : Hid (fitL n x b n' x' false = true) := hideT (by unfold fitL; simp [k1])
      clear k1
      go_enter Try.func6, Try.ntmps6
      go_wp2
      go_ret
      exact ⟨by rw [E.out]; rfl, BW.out _ _⟩
    | true =>
      cases b with
      | false =>
        have E : Hid (fitL n x false n' x' true = false) := hideT (by unfold fitL; simp)
        clear k1
        go_enter Try.func6, Try.ntmps6
        go_wp2
        go_ret
        exact ⟨by rw [E.out]; rfl, BW.out _ _⟩
      | true =>
        cases c2 : decide (x ≤ x') with
        | false =>
          have E : Hid (fitL n x true n' x' true = false) := hideT (by unfold fitL; simp [c2])
          clear k1
          go_enter Try.func6, Try.ntmps6
          go_wp2
          go_ret
          exact ⟨by rw [E.out]; rfl, BW.out _ _⟩
        | true =>
          have E : Hid (fitL n x true n' x' true = true) := hideT (by unfold fitL; simp [k1, c2])
          clear k1
          go_enter Try.func6, Try.ntmps6
          go_wp2
          go_ret
          exact ⟨by rw [E.out]; rfl, BW.out _ _⟩

set_option maxHeartbeats 2000000 in
theorem tFitTable_calls (t n x t' n' x' : Int) (b b' : Bool) (W : World) :
    Calls Try.prog 7 #[tabV t n x b, tabV t' n' x' b'] W fun e W' => e = .returned (.bool (t == t' && fitL n x b n' x' b')) ∧ Below W.heap.size W W' := by
  have D := hideT (fun V => tFit_calls n x n' x' b b' V)
  unfold tabV
  unfold limV at D
  have BW : Hid (∀ o o' : Obj, Below W.heap.size W ((W.alloc o).alloc o')) := hideT (fun o o' => ((Below.refl _ _).alloc (Nat.le_refl _) _).alloc (by simp) _)
  cases h : t == t' with
  | false =>
    go_enter Try.func7, Try.ntmps7
    go_wp2
    go_ret
    exact ⟨rfl, BW.out _ _⟩
  | true =>
    obtain rfl := eq_of_beq h
    clear h
    generalize fitL n x b n' x' b' = r at *
    go_enter Try.func7, Try.ntmps7
    go_wp2_with fail
    refine (D.out _).mono ?_
    rintro e w1 ⟨rfl, hb⟩
    have HB := hideT ((BW.out _ _).trans (hb.mono (BW.out _ _).size))
    clear hb
    go_wp2
    go_ret
    exact ⟨by simp, HB.out⟩
end Go.Proofs.Yteacjhmbamcegab
