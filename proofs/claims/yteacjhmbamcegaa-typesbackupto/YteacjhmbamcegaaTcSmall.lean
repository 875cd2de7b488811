/-
  The landed types.Is, IsRef, Zero, May, MayTable, Fit, FitTable, Has.
-/
import Derived.Test.YteacjhmbamcegaaTypSmall
set_option linter.unusedVariables false
set_option linter.unusedSimpArgs false
namespace Go.Proofs.Yteacjhmbamcegaa
open Go.RowKit Typ

set_option maxHeartbeats 1000000 in
theorem tIsRef_calls (t : Int) (W : World) : Calls Try.prog 11 #[.int .u8 t] W fun e W' => e = .returned (.bool (isR t)) ∧ W' = W := by
  cases h : isR t with
  | true =>
    rcases isR_cases h with rfl | rfl <;>
    · go_enter Try.func11, Try.ntmps11
      go_wp2
      go_ret
      exact ⟨rfl, rfl⟩
  | false =>
    obtain ⟨h1, h2⟩ := isR_not h
    have e1 : (t == 112) = false := by simp [h1]
    have e2 : (t == 111) = false := by simp [h2]
    clear h h1 h2
    go_enter Try.func11, Try.ntmps11
    go_wp2
    go_ret
    exact ⟨rfl, rfl⟩

set_option maxHeartbeats 1000000 in
theorem tIs_calls (t : Int) (W : World) : Calls Try.prog 9 #[.int .u8 t] W fun e W' => e = .returned (.bool (isT t)) ∧ W' = W := by
  cases h : isT t with
  | true =>
    rcases isT_cases h with rfl | rfl | rfl | rfl | rfl | rfl | rfl
    all_goals
      clear h
      go_enter Try.func9, Try.ntmps9
      go_wp2
      go_ret
      exact ⟨rfl, rfl⟩
  | false =>
    obtain ⟨g1, g2, g3, g4, g5, g6, g7⟩ := isT_not h
    have e1 : (t == 127) = false := by simp [g1]
    have e2 : (t == 126) = false := by simp [g2]
    have e3 : (t == 125) = false := by simp [g3]
    have e4 : (t == 124) = false := by simp [g4]
    have e5 : (t == 123) = false := by simp [g5]
    have e6 : (t == 112) = false := by simp [g6]
    have e7 : (t == 111) = false := by simp [g7]
    clear h g1 g2 g3 g4 g5 g6 g7
    go_enter Try.func9, Try.ntmps9
    go_wp2
    go_ret
    exact ⟨rfl, rfl⟩

set_option maxHeartbeats 2000000 in
theorem tMay_calls (n x : Int) (b : Bool) (m : Int) (n0 : 0 ≤ n) (n1 : n ≤ 4294967295) (x0 : 0 ≤ x) (x1 : x ≤ 4294967295) (W : World) :
    Calls Try.prog 17 #[limV n x b, .int .u64 m] W fun e W' => e = .returned (.bool (mayL n x b m)) ∧ Below W.heap.size W W' := by
  unfold limV
  have BW : Hid (∀ o : Obj, Below W.heap.size W (W.alloc o)) := hideT (fun o => (Below.refl _ _).alloc (Nat.le_refl _) _)
  have w1 := wrap_u32 n0 n1
  have w2 := wrap_u32 x0 x1
  clear n0 n1 x0 x1
  cases c1 : decide (m < n) with
  | true =>
    have E : Hid (mayL n x b m = false) := hideT (by
      have c1 := of_decide_eq_true c1
      unfold mayL
      cases b <;> simp <;> omega)
    go_enter Try.func17, Try.ntmps17
    go_wp2
    go_ret
    exact ⟨by rw [E.out]; rfl, BW.out _⟩
  | false =>
    cases b with
    | false =>
      have E : Hid (mayL n x false m = (x == 0)) := hideT (by
        have c1 := of_decide_eq_false c1
        unfold mayL
        simp
        omega)
      cases c2 : x == 0 with
      | false =>
        rw [c2] at E
        go_enter Try.func17, Try.ntmps17
        go_wp2
        go_ret
        exact ⟨by rw [E.out]; rfl, BW.out _⟩
      | true =>
        rw [c2] at E
        obtain rfl := eq_of_beq c2
        clear c2
        go_enter Try.func17, Try.ntmps17
        go_wp2
        go_ret
        exact ⟨by rw [E.out]; rfl, BW.out _⟩
    | true =>
      cases c2 : decide (n ≤ x) with
      | false =>
        have E : Hid (mayL n x true m = false) := hideT (by unfold mayL; simp [c2])
        go_enter Try.func17, Try.ntmps17
        go_wp2
        go_ret
        exact ⟨by rw [E.out]; rfl, BW.out _⟩
      | true =>
        cases c3 : decide (x ≤ m) with
        | false =>
          have E : Hid (mayL n x true m = false) := hideT (by unfold mayL; simp [c3])
          go_enter Try.func17, Try.ntmps17
          go_wp2
          go_ret
          exact ⟨by rw [E.out]; rfl, BW.out _⟩
        | true =>
          have E : Hid (mayL n x true m = true) := hideT (by unfold mayL; simp [c2, c3])
          go_enter Try.func17, Try.ntmps17
          go_wp2
          go_ret
          exact ⟨by rw [E.out]; rfl, BW.out _⟩

set_option maxHeartbeats 2000000 in
theorem tMayTable_calls (t n x : Int) (b : Bool) (n0 : 0 ≤ n) (n1 : n ≤ 4294967295) (x0 : 0 ≤ x) (x1 : x ≤ 4294967295) (W : World) :
    Calls Try.prog 19 #[tabV t n x b] W fun e W' => e = .returned (.bool (isR t && mayL n x b 4294967295)) ∧ Below W.heap.size W W' := by
  have C := tIsRef_calls t
  have D := hideT (fun V => tMay_calls n x b 4294967295 n0 n1 x0 x1 V)
  unfold tabV
  unfold limV at D
  have BW : Hid (∀ o : Obj, Below W.heap.size W (W.alloc o)) := hideT (fun o => (Below.refl _ _).alloc (Nat.le_refl _) _)
  clear n0 n1 x0 x1
  cases h : isR t with
  | false =>
    rw [h] at C
    have C := hideT C
    clear h
    go_enter Try.func19, Try.ntmps19
    go_wp2_with ((with_reducible refine (C.out _).mono ?_); rintro e w1 ⟨rfl, rfl⟩)
    go_ret
    exact ⟨rfl, BW.out _⟩
  | true =>
    rw [h] at C
    have C := hideT C
    clear h
    generalize mayL n x b 4294967295 = r at *
    go_enter Try.func19, Try.ntmps19
    go_wp2_with ((with_reducible refine (C.out _).mono ?_); rintro e w1 ⟨rfl, rfl⟩)
    refine (D.out _).mono ?_
    rintro e w1 ⟨rfl, hb⟩
    have HB := hideT ((BW.out _).trans (hb.mono (BW.out _).size))
    clear hb
    go_wp2
    go_ret
    exact ⟨by simp, HB.out⟩

set_option maxHeartbeats 2000000 in
theorem tFit_calls (n x n' x' : Int) (b b' : Bool) (W : World) :
    Calls Try.prog 21 #[limV n x b, limV n' x' b'] W fun e W' => e = .returned (.bool (fitL n x b n' x' b')) ∧ Below W.heap.size W W' := by
  unfold limV
  have BW : Hid (∀ o o' : Obj, Below W.heap.size W ((W.alloc o).alloc o')) := hideT (fun o o' => ((Below.refl _ _).alloc (Nat.le_refl _) _).alloc (by simp) _)
  cases c1 : decide (n < n') with
  | true =>
    have E : Hid (fitL n x b n' x' b' = false) := hideT (by
      have c1 := of_decide_eq_true c1
      unfold fitL
      simp
      omega)
    go_enter Try.func21, Try.ntmps21
    go_wp2
    go_ret
    exact ⟨by rw [E.out]; rfl, BW.out _ _⟩
  | false =>
    have k1 : n' ≤ n := by
      have c1 := of_decide_eq_false c1
      omega
    cases b' with
    | false =>
      have E : Hid (fitL n x b n' x' false = true) := hideT (by unfold fitL; simp [k1])
      clear k1
      go_enter Try.func21, Try.ntmps21
      go_wp2
      go_ret
      exact ⟨by rw [E.out]; rfl, BW.out _ _⟩
    | true =>
      cases b with
      | false =>
        have E : Hid (fitL n x false n' x' true = false) := hideT (by unfold fitL; simp)
        clear k1
        go_enter Try.func21, Try.ntmps21
        go_wp2
        go_ret
        exact ⟨by rw [E.out]; rfl, BW.out _ _⟩
      | true =>
        cases c2 : decide (x ≤ x') with
        | false =>
          have E : Hid (fitL n x true n' x' true = false) := hideT (by unfold fitL; simp [c2])
          clear k1
          go_enter Try.func21, Try.ntmps21
          go_wp2
          go_ret
          exact ⟨by rw [E.out]; rfl, BW.out _ _⟩
        | true =>
          have E : Hid (fitL n x true n' x' true = true) := hideT (by unfold fitL; simp [k1, c2])
          clear k1
          go_enter Try.func21, Try.ntmps21
          go_wp2
          go_ret
          exact ⟨by rw [E.out]; rfl, BW.out _ _⟩

set_option maxHeartbeats 2000000 in
theorem tFitTable_calls (t n x t' n' x' : Int) (b b' : Bool) (W : World) :
    Calls Try.prog 23 #[tabV t n x b, tabV t' n' x' b'] W fun e W' => e = .returned (.bool (t == t' && fitL n x b n' x' b')) ∧ Below W.heap.size W W' := by
  have D := hideT (fun V => tFit_calls n x n' x' b b' V)
  unfold tabV
  unfold limV at D
  have BW : Hid (∀ o o' : Obj, Below W.heap.size W ((W.alloc o).alloc o')) := hideT (fun o o' => ((Below.refl _ _).alloc (Nat.le_refl _) _).alloc (by simp) _)
  cases h : t == t' with
  | false =>
    go_enter Try.func23, Try.ntmps23
    go_wp2
    go_ret
    exact ⟨rfl, BW.out _ _⟩
  | true =>
    obtain rfl := eq_of_beq h
    clear h
    generalize fitL n x b n' x' b' = r at *
    go_enter Try.func23, Try.ntmps23
    go_wp2_with fail
    refine (D.out _).mono ?_
    rintro e w1 ⟨rfl, hb⟩
    have HB := hideT ((BW.out _ _).trans (hb.mono (BW.out _ _).size))
    clear hb
    go_wp2
    go_ret
    exact ⟨by simp, HB.out⟩
end Go.Proofs.Yteacjhmbamcegaa
