/-
  ints.isWidth and ints.fit.
-/
import Derived.Test.YtfahogbiekmdfabDoorZIntsParts
set_option linter.unusedVariables false
set_option linter.unusedSimpArgs false
namespace Go.Proofs.YtfahogbiekmdfabDoor.Z
open Go.RowKit Ints

theorem isW_iff (w : Int) : isW w = true ↔ ∃ n : Nat, w = n ∧ IsW n := by
  unfold isW IsW
  simp only [Bool.or_eq_true, beq_iff_eq]
  constructor
  · rintro (((h | h) | h) | h)
    · exact ⟨8, h, by simp⟩
    · exact ⟨16, h, by simp⟩
    · exact ⟨32, h, by simp⟩
    · exact ⟨64, h, by simp⟩
  · rintro ⟨n, rfl, h⟩
    omega

set_option maxHeartbeats 1000000 in
theorem isWidth_calls (w : Int) (W : World) (hT : WTabs W) :
    Calls Tryd.prog 29 #[.int .i64 w] W fun e W' => e = .returned (.bool (isW w)) ∧ W' = W := by
  obtain ⟨t, fr, hg⟩ := hT.widths
  clear hT
  have i0 : ∀ w : World, (Instr.index 63 (.agg #[.int .i64 8, .int .i64 16, .int .i64 32, .int .i64 64]) (.int .i64 0)).run Tryd.prog w = .ok (.int .i64 8) w := fun _ => by kernel_rfl
  have i1 : ∀ w : World, (Instr.index 63 (.agg #[.int .i64 8, .int .i64 16, .int .i64 32, .int .i64 64]) (.int .i64 1)).run Tryd.prog w = .ok (.int .i64 16) w := fun _ => by kernel_rfl
  have i2 : ∀ w : World, (Instr.index 63 (.agg #[.int .i64 8, .int .i64 16, .int .i64 32, .int .i64 64]) (.int .i64 2)).run Tryd.prog w = .ok (.int .i64 32) w := fun _ => by kernel_rfl
  have i3 : ∀ w : World, (Instr.index 63 (.agg #[.int .i64 8, .int .i64 16, .int .i64 32, .int .i64 64]) (.int .i64 3)).run Tryd.prog w = .ok (.int .i64 64) w := fun _ => by kernel_rfl
  go_enter Tryd.func29, Tryd.ntmps29
  go_wp2_with (refine wpList_load_row rfl 63 _ rfl 1 rfl t _ fr _ hg under4 rfl (by kernel_rfl) ?_)
  go_loop [6] (fun x => ∃ k : Nat, x = .int .i64 (k : Int) ∧ k ≤ 4 ∧ (0 < k → w ≠ 8) ∧ (1 < k → w ≠ 16) ∧ (2 < k → w ≠ 32) ∧ (3 < k → w ≠ 64)) (fun x => (4 - (intOf x).toNat))
  case atStart => exact ⟨0, rfl, by omega, by omega, by omega, by omega, by omega⟩
  case round =>
    obtain ⟨k, rfl, hk, c0, c1, c2, c3⟩ := hrel
    rcases (show k = 0 ∨ k = 1 ∨ k = 2 ∨ k = 3 ∨ k = 4 by omega) with rfl | rfl | rfl | rfl | rfl
    all_goals simp at c0 c1 c2 c3
    · by_cases c : w = 8
      · subst c
        go_wp2
        go_ret
        exact ⟨rfl, rfl⟩
      · go_wp2
        exact ⟨⟨1, rfl, by omega, by omega, by omega, by omega, by omega⟩, by simp [intOf]⟩
    · by_cases c : w = 16
      · subst c
        go_wp2
        go_ret
        exact ⟨rfl, rfl⟩
      · go_wp2
        exact ⟨⟨2, rfl, by omega, by omega, by omega, by omega, by omega⟩, by simp [intOf]⟩
    · by_cases c : w = 32
      · subst c
        go_wp2
        go_ret
        exact ⟨rfl, rfl⟩
      · go_wp2
        exact ⟨⟨3, rfl, by omega, by omega, by omega, by omega, by omega⟩, by simp [intOf]⟩
    · by_cases c : w = 64
      · subst c
        go_wp2
        go_ret
        exact ⟨rfl, rfl⟩
      · go_wp2
        exact ⟨⟨4, rfl, by omega, by omega, by omega, by omega, by omega⟩, by simp [intOf]⟩
    · go_wp2
      go_ret
      refine ⟨?_, rfl⟩
      have : isW w = false := by
        unfold isW
        simp only [Bool.or_eq_false_iff, beq_eq_false_iff_ne, ne_eq]
        omega
      rw [this]; rfl

set_option maxHeartbeats 1000000 in
theorem fit_none (w : Int) (hw : isW w = false) (v : Value) (W : World) (hT : WTabs W) :
    Calls Tryd.prog 13 #[.int .i64 w, v] W fun e W' => e = .returned (.bool false) ∧ W' = W := by
  have C := hide (isWidth_calls w W hT)
  rw [hw] at C
  go_enter Tryd.func13, Tryd.ntmps13
  go_wp2_with (with_reducible refine (C.out).mono ?_; rintro e w1 ⟨rfl, rfl⟩)
  go_ret
  exact ⟨rfl, rfl⟩

set_option maxHeartbeats 1000000 in
theorem fit_two {w : Nat} (hw : IsW w) (g : Nat) (a b : Int) (W : World) (hT : WTabs W) (h0 : W.cell? ⟨g, 0, none⟩ = some (.int .u64 a)) (h1 : W.cell? ⟨g, 1, none⟩ = some (.int .u64 b)) :
    Calls Tryd.prog 13 #[.int .i64 (w : Int), .slice (some ⟨g, 0, none⟩) 2 2] W fun e W' => e = .returned (.bool (decide (a ≤ mo w) && decide (b ≤ mo w))) ∧ W' = W := by
  have C := hide (isWidth_calls w W hT)
  rw [(isW_iff w).2 ⟨w, rfl, hw⟩] at C
  have D := hide (most_calls hw)
  clear hT
  go_enter Tryd.func13, Tryd.ntmps13
  go_wp2_with (with_reducible refine (C.out).mono ?_; rintro e w1 ⟨rfl, rfl⟩)
  go_loop [12] (fun x => ∃ k : Nat, x = .int .i64 (k : Int) ∧ k ≤ 2 ∧ (0 < k → a ≤ mo w) ∧ (1 < k → b ≤ mo w)) (fun x => (2 - (intOf x).toNat))
  case atStart => exact ⟨0, rfl, by omega, by omega, by omega⟩
  case round =>
    obtain ⟨k, rfl, hk, c0, c1⟩ := hrel
    rcases (show k = 0 ∨ k = 1 ∨ k = 2 by omega) with rfl | rfl | rfl
    all_goals simp at c0 c1
    · by_cases c : a ≤ mo w
      · have c' : decide (a > mo w) = false := by simp; omega
        go_wp2_with (with_reducible refine (D.out _).mono ?_; rintro e w1 ⟨rfl, rfl⟩)
        exact ⟨⟨1, rfl, by omega, by omega, by omega⟩, by simp [intOf]⟩
      · have c' : decide (a > mo w) = true := by simp; omega
        have cf := hide (show (decide (a ≤ mo w) && decide (b ≤ mo w)) = false by rw [decide_eq_false c, Bool.false_and])
        go_wp2_with (with_reducible refine (D.out _).mono ?_; rintro e w1 ⟨rfl, rfl⟩)
        go_ret
        exact ⟨by rw [cf.out]; rfl, rfl⟩
    · by_cases c : b ≤ mo w
      · have c' : decide (b > mo w) = false := by simp; omega
        go_wp2_with (with_reducible refine (D.out _).mono ?_; rintro e w1 ⟨rfl, rfl⟩)
        exact ⟨⟨2, rfl, by omega, by omega, by omega⟩, by simp [intOf]⟩
      · have c' : decide (b > mo w) = true := by simp; omega
        have cf := hide (show (decide (a ≤ mo w) && decide (b ≤ mo w)) = false by rw [decide_eq_false c, Bool.and_false])
        go_wp2_with (with_reducible refine (D.out _).mono ?_; rintro e w1 ⟨rfl, rfl⟩)
        go_ret
        exact ⟨by rw [cf.out]; rfl, rfl⟩
    · go_wp2
      go_ret
      exact ⟨by simp [c0, c1], rfl⟩

set_option maxHeartbeats 1000000 in
theorem fit_one {w : Nat} (hw : IsW w) (g : Nat) (a : Int) (W : World) (hT : WTabs W) (h0 : W.cell? ⟨g, 0, none⟩ = some (.int .u64 a)) :
    Calls Tryd.prog 13 #[.int .i64 (w : Int), .slice (some ⟨g, 0, none⟩) 1 1] W fun e W' => e = .returned (.bool (decide (a ≤ mo w))) ∧ W' = W := by
  have C := hide (isWidth_calls w W hT)
  rw [(isW_iff w).2 ⟨w, rfl, hw⟩] at C
  have D := hide (most_calls hw)
  clear hT
  go_enter Tryd.func13, Tryd.ntmps13
  go_wp2_with (with_reducible refine (C.out).mono ?_; rintro e w1 ⟨rfl, rfl⟩)
  go_loop [12] (fun x => ∃ k : Nat, x = .int .i64 (k : Int) ∧ k ≤ 1 ∧ (0 < k → a ≤ mo w)) (fun x => (1 - (intOf x).toNat))
  case atStart => exact ⟨0, rfl, by omega, by omega⟩
  case round =>
    obtain ⟨k, rfl, hk, c0⟩ := hrel
    rcases (show k = 0 ∨ k = 1 by omega) with rfl | rfl
    all_goals simp at c0
    · by_cases c : a ≤ mo w
      · have c' : decide (a > mo w) = false := by simp; omega
        go_wp2_with (with_reducible refine (D.out _).mono ?_; rintro e w1 ⟨rfl, rfl⟩)
        exact ⟨⟨1, rfl, by omega, by omega⟩, by simp [intOf]⟩
      · have c' : decide (a > mo w) = true := by simp; omega
        go_wp2_with (with_reducible refine (D.out _).mono ?_; rintro e w1 ⟨rfl, rfl⟩)
        go_ret
        exact ⟨by simp [c], rfl⟩
    · go_wp2
      go_ret
      exact ⟨by simp [c0], rfl⟩

set_option maxHeartbeats 1000000 in
theorem fit_nil {w : Nat} (hw : IsW w) (W : World) (hT : WTabs W) :
    Calls Tryd.prog 13 #[.int .i64 (w : Int), .slice none 0 0] W fun e W' => e = .returned (.bool true) ∧ W' = W := by
  have C := hide (isWidth_calls w W hT)
  rw [(isW_iff w).2 ⟨w, rfl, hw⟩] at C
  clear hT
  go_enter Tryd.func13, Tryd.ntmps13
  go_wp2_with (with_reducible refine (C.out).mono ?_; rintro e w1 ⟨rfl, rfl⟩)
  go_loop [12] (fun x => x = .int .i64 0) (fun x => 0)
  case atStart => rfl
  case round =>
    subst hrel
    go_wp2
    go_ret
    exact ⟨rfl, rfl⟩
end Go.Proofs.YtfahogbiekmdfabDoor.Z
