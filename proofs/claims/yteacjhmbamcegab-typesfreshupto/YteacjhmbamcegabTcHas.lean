/-
  The landed types.Has, Zero.
-/
import Derived.Test.YteacjhmbamcegabTypCells
set_option linter.unusedVariables false
set_option linter.unusedSimpArgs false
namespace Go.Proofs.Yteacjhmbamcegab
open Go.RowKit Typ

set_option maxHeartbeats 4000000 in
theorem tHas_calls (t lo hi : Int) (W : World) : Calls Try.prog 11 #[valV t lo hi] W fun e W' => e = .returned (.bool (hasT t lo hi)) ∧ Below W.heap.size W W' := by
  unfold valV
  have BW : Hid (∀ o : Obj, Below W.heap.size W (W.alloc o)) := hideT (fun o => (Below.refl _ _).alloc (Nat.le_refl _) _)
  cases h : isT t with
  | true =>
    rcases isT_cases h with rfl | rfl | rfl | rfl | rfl | rfl | rfl
    all_goals
      clear h
      by_cases a : hi = 0
      · subst a
        by_cases b : lo ≤ 4294967295
        · have b' : lo ≤ 4294967296 := by omega
          have r1 : decide (lo < 4294967296) = true := by simp; omega
          have r2 : decide (lo ≤ 4294967296) = true := by simp [b']
          have E1 : Hid (lo ≤ 4294967295) := b
          have E2 : Hid (lo ≤ 4294967296) := b'
          clear b b'
          go_enter Try.func11, Try.ntmps11
          go_wp2
          go_ret
          refine ⟨?_, BW.out _⟩
          have := E1.out
          have := E2.out
          simp [hasT, *]
        · by_cases b' : lo ≤ 4294967296
          · have r1 : decide (lo < 4294967296) = false := by simp; omega
            have r2 : decide (lo ≤ 4294967296) = true := by simp [b']
            have E1 : Hid (¬ lo ≤ 4294967295) := b
            have E2 : Hid (lo ≤ 4294967296) := b'
            clear b b'
            go_enter Try.func11, Try.ntmps11
            go_wp2
            go_ret
            refine ⟨?_, BW.out _⟩
            have e1 := E1.out
            have e2 := E2.out
            simp [hasT, e1, e2]
          · have r1 : decide (lo < 4294967296) = false := by simp; omega
            have r2 : decide (lo ≤ 4294967296) = false := by simp; omega
            have E1 : Hid (¬ lo ≤ 4294967295) := b
            have E2 : Hid (¬ lo ≤ 4294967296) := b'
            clear b b'
            go_enter Try.func11, Try.ntmps11
            go_wp2
            go_ret
            refine ⟨?_, BW.out _⟩
            have e1 := E1.out
            have e2 := E2.out
            simp [hasT, e1, e2]
      · have r0 : (hi == 0) = false := by simp [a]
        have E1 : Hid (¬ hi = 0) := a
        clear a
        go_enter Try.func11, Try.ntmps11
        go_wp2
        go_ret
        refine ⟨?_, BW.out _⟩
        have e1 := E1.out
        simp [hasT, e1]
  | false =>
    obtain ⟨g1, g2, g3, g4, g5, g6, g7⟩ := isT_not h
    have e1 : (t == 127) = false := by simp [g1]
    have e2 : (t == 126) = false := by simp [g2]
    have e3 : (t == 125) = false := by simp [g3]
    have e4 : (t == 124) = false := by simp [g4]
    have e5 : (t == 123) = false := by simp [g5]
    have e6 : (t == 112) = false := by simp [g6]
    have e7 : (t == 111) = false := by simp [g7]
    have E : Hid (hasT t lo hi = false) := hideT (by unfold hasT; simp [g1, g2, g3, g4, g5, g6, g7])
    clear h g1 g2 g3 g4 g5 g6 g7
    go_enter Try.func11, Try.ntmps11
    go_wp2
    all_goals
      go_ret
      exact ⟨by rw [E.out]; rfl, BW.out _⟩
end Go.Proofs.Yteacjhmbamcegab
