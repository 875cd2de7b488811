/-
  The document's IsRef, Is, Has, May, MayTable, Fit, FitTable.
-/
import Derived.Test.YteacjhmbamcegaaTypMath
import Derived.Test.YteacjhmbamcegaaLebReads
set_option linter.unusedVariables false
set_option linter.unusedSimpArgs false
namespace Go.Proofs.Yteacjhmbamcegaa
open Go.RowKit Typ

theorem hideT {p : Prop} (h : p) : Hid p := h
def limV (n x : Int) (b : Bool) : Value := .agg #[.int .u32 n, .int .u32 x, .bool b]
def tabV (e n x : Int) (b : Bool) : Value := .agg #[.int .u8 e, .int .u32 n, .int .u32 x, .bool b]
def valV (t lo hi : Int) : Value := .agg #[.int .u8 t, .int .u64 lo, .int .u64 hi]

set_option maxHeartbeats 1000000 in
theorem rIsRef_calls (t : Int) (W : World) : Calls Try.prog 12 #[.int .u8 t] W fun e W' => e = .returned (.bool (isR t)) ∧ W' = W := by
  cases h : isR t with
  | true =>
    rcases isR_cases h with rfl | rfl <;>
    · go_enter Try.func12, Try.ntmps12
      go_wp2
      go_ret
      exact ⟨rfl, rfl⟩
  | false =>
    obtain ⟨h1, h2⟩ := isR_not h
    have e1 : (t == 112) = false := by simp [h1]
    have e2 : (t == 111) = false := by simp [h2]
    clear h h1 h2
    go_enter Try.func12, Try.ntmps12
    go_wp2
    go_ret
    exact ⟨rfl, rfl⟩

set_option maxHeartbeats 1000000 in
theorem rIs_calls (t : Int) (W : World) : Calls Try.prog 10 #[.int .u8 t] W fun e W' => e = .returned (.bool (isT t)) ∧ W' = W := by
  cases h : isT t with
  | true =>
    rcases isT_cases h with rfl | rfl | rfl | rfl | rfl | rfl | rfl
    all_goals
      have C := hideT (rIsRef_calls 112)
      have D := hideT (rIsRef_calls 111)
      go_enter Try.func10, Try.ntmps10
      go_wp2_with (first | ((with_reducible refine (C.out _).mono ?_); rintro e w1 ⟨rfl, rfl⟩) | ((with_reducible refine (D.out _).mono ?_); rintro e w1 ⟨rfl, rfl⟩))
      go_ret
      exact ⟨rfl, rfl⟩
  | false =>
    have hr : isR t = false := by
      unfold isT at h
      simp at h
      exact h.2
    have C := rIsRef_calls t
    rw [hr] at C
    have C := hideT C
    obtain ⟨g1, g2, g3, g4, g5, g6, g7⟩ := isT_not h
    by_cases c : 123 ≤ t
    · have e1 : decide (123 ≤ t) = true := by simp [c]
      have e2 : decide (t ≤ 127) = false := by simp; omega
      have c2 : ¬ t ≤ 127 := by omega
      clear h g1 g2 g3 g4 g5 g6 g7 hr
      go_enter Try.func10, Try.ntmps10
      go_wp2_with ((with_reducible refine (C.out _).mono ?_); rintro e w1 ⟨rfl, rfl⟩)
      go_ret
      exact ⟨rfl, rfl⟩
    · have e1 : decide (123 ≤ t) = false := by simp; omega
      clear h g1 g2 g3 g4 g5 g6 g7 hr
      go_enter Try.func10, Try.ntmps10
      go_wp2_with ((with_reducible refine (C.out _).mono ?_); rintro e w1 ⟨rfl, rfl⟩)
      go_ret
      exact ⟨rfl, rfl⟩


theorem wrap_u32 {n : Int} (h0 : 0 ≤ n) (h1 : n ≤ 4294967295) : IntKind.u64.wrap n = n := by rw [IntKind.wrap_u64]; omega
theorem dec_true {p : Prop} [Decidable p] (h : decide p = true) : p := of_decide_eq_true h

set_option maxHeartbeats 2000000 in
theorem rMay_calls (n x : Int) (b : Bool) (m : Int) (n0 : 0 ≤ n) (n1 : n ≤ 4294967295) (x0 : 0 ≤ x) (x1 : x ≤ 4294967295) (W : World) :
    Calls Try.prog 18 #[limV n x b, .int .u64 m] W fun e W' => e = .returned (.bool (mayL n x b m)) ∧ Below W.heap.size W W' := by
  unfold limV
  have BW : Hid (∀ o : Obj, Below W.heap.size W (W.alloc o)) := hideT (fun o => (Below.refl _ _).alloc (Nat.le_refl _) _)
  have w1 := wrap_u32 n0 n1
  have w2 := wrap_u32 x0 x1
  clear n0 n1 x0 x1
  cases b with
  | false =>
    cases c1 : decide (n ≤ m) with
    | false =>
      have E : Hid (mayL n x false m = false) := hideT (by unfold mayL; simp [c1])
      go_enter Try.func18, Try.ntmps18
      go_wp2
      go_ret
      exact ⟨by rw [E.out]; rfl, BW.out _⟩
    | true =>
      cases c2 : x == 0 with
      | false =>
        have E : Hid (mayL n x false m = false) := hideT (by unfold mayL; simp [c2])
        go_enter Try.func18, Try.ntmps18
        go_wp2
        go_ret
        exact ⟨by rw [E.out]; rfl, BW.out _⟩
      | true =>
        have E : Hid (mayL n x false m = true) := hideT (by unfold mayL; simp [c1, c2])
        obtain rfl := eq_of_beq c2
        clear c2
        go_enter Try.func18, Try.ntmps18
        go_wp2
        go_ret
        exact ⟨by rw [E.out]; rfl, BW.out _⟩
  | true =>
    cases c1 : decide (n ≤ x) with
    | false =>
      have E : Hid (mayL n x true m = false) := hideT (by unfold mayL; simp [c1])
      go_enter Try.func18, Try.ntmps18
      go_wp2
      go_ret
      exact ⟨by rw [E.out]; rfl, BW.out _⟩
    | true =>
      cases c2 : decide (x ≤ m) with
      | false =>
        have E : Hid (mayL n x true m = false) := hideT (by unfold mayL; simp [c2])
        go_enter Try.func18, Try.ntmps18
        go_wp2
        go_ret
        exact ⟨by rw [E.out]; rfl, BW.out _⟩
      | true =>
        have E : Hid (mayL n x true m = true) := hideT (by unfold mayL; simp [c1, c2])
        go_enter Try.func18, Try.ntmps18
        go_wp2
        go_ret
        exact ⟨by rw [E.out]; rfl, BW.out _⟩

set_option maxHeartbeats 2000000 in
theorem rMayTable_calls (t n x : Int) (b : Bool) (n0 : 0 ≤ n) (n1 : n ≤ 4294967295) (x0 : 0 ≤ x) (x1 : x ≤ 4294967295) (W : World) :
    Calls Try.prog 20 #[tabV t n x b] W fun e W' => e = .returned (.bool (isR t && mayL n x b 4294967295)) ∧ Below W.heap.size W W' := by
  have C := rIsRef_calls t
  have D := hideT (fun V => rMay_calls n x b 4294967295 n0 n1 x0 x1 V)
  unfold tabV
  unfold limV at D
  have BW : Hid (∀ o : Obj, Below W.heap.size W (W.alloc o)) := hideT (fun o => (Below.refl _ _).alloc (Nat.le_refl _) _)
  clear n0 n1 x0 x1
  cases h : isR t with
  | false =>
    rw [h] at C
    have C := hideT C
    clear h
    go_enter Try.func20, Try.ntmps20
    go_wp2_with ((with_reducible refine (C.out _).mono ?_); rintro e w1 ⟨rfl, rfl⟩)
    go_ret
    exact ⟨rfl, BW.out _⟩
  | true =>
    rw [h] at C
    have C := hideT C
    clear h
    generalize mayL n x b 4294967295 = r at *
    go_enter Try.func20, Try.ntmps20
    go_wp2_with ((with_reducible refine (C.out _).mono ?_); rintro e w1 ⟨rfl, rfl⟩)
    refine (D.out _).mono ?_
    rintro e w1 ⟨rfl, hb⟩
    have HB := hideT ((BW.out _).trans (hb.mono (BW.out _).size))
    clear hb
    go_wp2
    go_ret
    exact ⟨by simp, HB.out⟩

set_option maxHeartbeats 2000000 in
theorem rFit_calls (n x n' x' : Int) (b b' : Bool) (W : World) :
    Calls Try.prog 22 #[limV n x b, limV n' x' b'] W fun e W' => e = .returned (.bool (fitL n x b n' x' b')) ∧ Below W.heap.size W W' := by
  unfold limV
  have BW : Hid (∀ o o' : Obj, Below W.heap.size W ((W.alloc o).alloc o')) := hideT (fun o o' => ((Below.refl _ _).alloc (Nat.le_refl _) _).alloc (by simp) _)
  cases c1 : decide (n' ≤ n) with
  | false =>
    have E : Hid (fitL n x b n' x' b' = false) := hideT (by unfold fitL; simp [c1])
    go_enter Try.func22, Try.ntmps22
    go_wp2
    go_ret
    exact ⟨by rw [E.out]; rfl, BW.out _ _⟩
  | true =>
    cases b' with
    | false =>
      have E : Hid (fitL n x b n' x' false = true) := hideT (by unfold fitL; simp [c1])
      go_enter Try.func22, Try.ntmps22
      go_wp2
      go_ret
      exact ⟨by rw [E.out]; rfl, BW.out _ _⟩
    | true =>
      cases b with
      | false =>
        have E : Hid (fitL n x false n' x' true = false) := hideT (by unfold fitL; simp)
        go_enter Try.func22, Try.ntmps22
        go_wp2
        go_ret
        exact ⟨by rw [E.out]; rfl, BW.out _ _⟩
      | true =>
        cases c2 : decide (x ≤ x') with
        | false =>
          have E : Hid (fitL n x true n' x' true = false) := hideT (by unfold fitL; simp [c2])
          go_enter Try.func22, Try.ntmps22
          go_wp2
          go_ret
          exact ⟨by rw [E.out]; rfl, BW.out _ _⟩
        | true =>
          have E : Hid (fitL n x true n' x' true = true) := hideT (by unfold fitL; simp [c1, c2])
          go_enter Try.func22, Try.ntmps22
          go_wp2
          go_ret
          exact ⟨by rw [E.out]; rfl, BW.out _ _⟩

set_option maxHeartbeats 2000000 in
theorem rFitTable_calls (t n x t' n' x' : Int) (b b' : Bool) (W : World) :
    Calls Try.prog 24 #[tabV t n x b, tabV t' n' x' b'] W fun e W' => e = .returned (.bool (t == t' && fitL n x b n' x' b')) ∧ Below W.heap.size W W' := by
  have D := hideT (fun V => rFit_calls n x n' x' b b' V)
  unfold tabV
  unfold limV at D
  have BW : Hid (∀ o o' : Obj, Below W.heap.size W ((W.alloc o).alloc o')) := hideT (fun o o' => ((Below.refl _ _).alloc (Nat.le_refl _) _).alloc (by simp) _)
  cases h : t == t' with
  | false =>
    go_enter Try.func24, Try.ntmps24
    go_wp2
    go_ret
    exact ⟨rfl, BW.out _ _⟩
  | true =>
    obtain rfl := eq_of_beq h
    clear h
    generalize fitL n x b n' x' b' = r at *
    go_enter Try.func24, Try.ntmps24
    go_wp2_with fail
    refine (D.out _).mono ?_
    rintro e w1 ⟨rfl, hb⟩
    have HB := hideT ((BW.out _ _).trans (hb.mono (BW.out _ _).size))
    clear hb
    go_wp2
    go_ret
    exact ⟨by simp, HB.out⟩
end Go.Proofs.Yteacjhmbamcegaa
