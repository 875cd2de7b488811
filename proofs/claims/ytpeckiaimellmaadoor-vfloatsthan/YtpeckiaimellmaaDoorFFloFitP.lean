/-
  floats.fit at the slices that its callers make.
-/
import Derived.Test.YtpeckiaimellmaaDoorFFloSmallP
import Derived.Test.YtpeckiaimellmaaDoorFFloAnsP
set_option linter.unusedVariables false
set_option linter.unusedSimpArgs false
namespace Go.Proofs.YtpeckiaimellmaaDoor.F
open Go.RowKit Flo

/-- Is it a width that has these bits? -/
def okW (w : Int) (a : Nat) : Bool := w == 64 || (w == 32 && decide (a ≤ 4294967295))

set_option maxHeartbeats 1000000 in
theorem fit_none (w : Int) (h1 : w ≠ 32) (h2 : w ≠ 64) (v : Value) (W : World) :
    Calls Tryd.prog 61 #[.int .i64 w, v] W fun e W' => e = .returned (.bool false) ∧ W' = W := by
  have e1 : (w != 32) = true := by simp [h1]
  have e2 : (w != 64) = true := by simp [h2]
  go_enter Tryd.func61, Tryd.ntmps61
  go_wp2
  go_ret
  exact ⟨rfl, rfl⟩

set_option maxHeartbeats 1000000 in
theorem fit_two32 (g : Nat) (a b : Nat) (W : World) (h0 : W.cell? ⟨g, 0, none⟩ = some (.int .u64 (a : Int))) (h1 : W.cell? ⟨g, 1, none⟩ = some (.int .u64 (b : Int))) :
    Calls Tryd.prog 61 #[.int .i64 32, .slice (some ⟨g, 0, none⟩) 2 2] W fun e W' => e = .returned (.bool (decide (a ≤ 4294967295) && decide (b ≤ 4294967295))) ∧ W' = W := by
  go_enter Tryd.func61, Tryd.ntmps61
  go_wp2
  go_loop [15] (fun x => ∃ k : Nat, x = .int .i64 (k : Int) ∧ k ≤ 2 ∧ (0 < k → a ≤ 4294967295) ∧ (1 < k → b ≤ 4294967295)) (fun x => (2 - (intOf x).toNat))
  case atStart => exact ⟨0, rfl, by omega, by omega, by omega⟩
  case round =>
    obtain ⟨k, rfl, hk, c0, c1⟩ := hrel
    rcases (show k = 0 ∨ k = 1 ∨ k = 2 by omega) with rfl | rfl | rfl
    all_goals simp at c0 c1
    · by_cases c : a ≤ 4294967295
      · have c' : decide ((a : Int) > 4294967295) = false := by simp; omega
        go_wp2
        exact ⟨⟨1, rfl, by omega, by omega, by omega⟩, by simp [intOf]⟩
      · have c' : decide ((a : Int) > 4294967295) = true := by simp; omega
        have cf := hide (show (decide (a ≤ 4294967295) && decide (b ≤ 4294967295)) = false by rw [decide_eq_false c, Bool.false_and])
        go_wp2
        go_ret
        first | exact ⟨rfl, rfl⟩ | exact ⟨by rw [cf.out]; rfl, rfl⟩
    · by_cases c : b ≤ 4294967295
      · have c' : decide ((b : Int) > 4294967295) = false := by simp; omega
        go_wp2
        exact ⟨⟨2, rfl, by omega, by omega, by omega⟩, by simp [intOf]⟩
      · have c' : decide ((b : Int) > 4294967295) = true := by simp; omega
        have cf := hide (show (decide (a ≤ 4294967295) && decide (b ≤ 4294967295)) = false by rw [decide_eq_false c, Bool.and_false])
        go_wp2
        go_ret
        first | exact ⟨rfl, rfl⟩ | exact ⟨by rw [cf.out]; rfl, rfl⟩
    · go_wp2
      go_ret
      exact ⟨by simp [c0, c1], rfl⟩

set_option maxHeartbeats 1000000 in
theorem fit_two64 (g : Nat) (a b : Nat) (W : World) (h0 : W.cell? ⟨g, 0, none⟩ = some (.int .u64 (a : Int))) (h1 : W.cell? ⟨g, 1, none⟩ = some (.int .u64 (b : Int))) :
    Calls Tryd.prog 61 #[.int .i64 64, .slice (some ⟨g, 0, none⟩) 2 2] W fun e W' => e = .returned (.bool true) ∧ W' = W := by
  go_enter Tryd.func61, Tryd.ntmps61
  go_wp2
  go_loop [15] (fun x => ∃ k : Nat, x = .int .i64 (k : Int) ∧ k ≤ 2) (fun x => (2 - (intOf x).toNat))
  case atStart => exact ⟨0, rfl, by omega⟩
  case round =>
    obtain ⟨k, rfl, hk⟩ := hrel
    rcases (show k = 0 ∨ k = 1 ∨ k = 2 by omega) with rfl | rfl | rfl
    · go_wp2
      exact ⟨⟨1, rfl, by omega⟩, by simp [intOf]⟩
    · go_wp2
      exact ⟨⟨2, rfl, by omega⟩, by simp [intOf]⟩
    · go_wp2
      go_ret
      exact ⟨rfl, rfl⟩

set_option maxHeartbeats 1000000 in
theorem fit_one32 (g : Nat) (a : Nat) (W : World) (h0 : W.cell? ⟨g, 0, none⟩ = some (.int .u64 (a : Int))) :
    Calls Tryd.prog 61 #[.int .i64 32, .slice (some ⟨g, 0, none⟩) 1 1] W fun e W' => e = .returned (.bool (decide (a ≤ 4294967295))) ∧ W' = W := by
  go_enter Tryd.func61, Tryd.ntmps61
  go_wp2
  go_loop [15] (fun x => ∃ k : Nat, x = .int .i64 (k : Int) ∧ k ≤ 1 ∧ (0 < k → a ≤ 4294967295)) (fun x => (1 - (intOf x).toNat))
  case atStart => exact ⟨0, rfl, by omega, by omega⟩
  case round =>
    obtain ⟨k, rfl, hk, c0⟩ := hrel
    rcases (show k = 0 ∨ k = 1 by omega) with rfl | rfl
    all_goals simp at c0
    · by_cases c : a ≤ 4294967295
      · have c' : decide ((a : Int) > 4294967295) = false := by simp; omega
        go_wp2
        exact ⟨⟨1, rfl, by omega, by omega⟩, by simp [intOf]⟩
      · have c' : decide ((a : Int) > 4294967295) = true := by simp; omega
        go_wp2
        go_ret
        first | exact ⟨rfl, rfl⟩ | exact ⟨by simp; omega, rfl⟩
    · go_wp2
      go_ret
      exact ⟨by simp [c0], rfl⟩

set_option maxHeartbeats 1000000 in
theorem fit_one64 (g : Nat) (a : Nat) (W : World) (h0 : W.cell? ⟨g, 0, none⟩ = some (.int .u64 (a : Int))) :
    Calls Tryd.prog 61 #[.int .i64 64, .slice (some ⟨g, 0, none⟩) 1 1] W fun e W' => e = .returned (.bool true) ∧ W' = W := by
  go_enter Tryd.func61, Tryd.ntmps61
  go_wp2
  go_loop [15] (fun x => ∃ k : Nat, x = .int .i64 (k : Int) ∧ k ≤ 1) (fun x => (1 - (intOf x).toNat))
  case atStart => exact ⟨0, rfl, by omega⟩
  case round =>
    obtain ⟨k, rfl, hk⟩ := hrel
    rcases (show k = 0 ∨ k = 1 by omega) with rfl | rfl
    · go_wp2
      exact ⟨⟨1, rfl, by omega⟩, by simp [intOf]⟩
    · go_wp2
      go_ret
      exact ⟨rfl, rfl⟩

theorem below_one (W : World) (o : Obj) : Below W.heap.size W (W.alloc o) := (Below.refl W.heap.size W).alloc (Nat.le_refl _) _
theorem cell_two0 (W : World) (x y : Value) (t : TypeId) : (W.alloc (.cells #[x, y] t)).cell? ⟨W.heap.size, 0, none⟩ = some x := by simp
theorem cell_two1 (W : World) (x y : Value) (t : TypeId) : (W.alloc (.cells #[x, y] t)).cell? ⟨W.heap.size, 1, none⟩ = some y := by simp
theorem cell_one0 (W : World) (x : Value) (t : TypeId) : (W.alloc (.cells #[x] t)).cell? ⟨W.heap.size, 0, none⟩ = some x := by simp

theorem fit2 (w : Int) (a b : Nat) (W : World) :
    Calls Tryd.prog 61 #[.int .i64 w, .slice (some ⟨W.heap.size, 0, none⟩) 2 2] (W.alloc (.cells #[.int .u64 (a : Int), .int .u64 (b : Int)] 23)) fun e W' => e = .returned (.bool (okW w a && okW w b)) ∧ W' = W.alloc (.cells #[.int .u64 (a : Int), .int .u64 (b : Int)] 23) := by
  by_cases h1 : w = 32
  · subst h1
    exact fit_two32 W.heap.size a b _ (cell_two0 ..) (cell_two1 ..)
  · by_cases h2 : w = 64
    · subst h2
      exact fit_two64 W.heap.size a b _ (cell_two0 ..) (cell_two1 ..)
    · have : okW w a = false := by simp [okW, h1, h2]
      rw [this]
      exact fit_none w h1 h2 _ _

theorem fit1 (w : Int) (a : Nat) (W : World) :
    Calls Tryd.prog 61 #[.int .i64 w, .slice (some ⟨W.heap.size, 0, none⟩) 1 1] (W.alloc (.cells #[.int .u64 (a : Int)] 23)) fun e W' => e = .returned (.bool (okW w a)) ∧ W' = W.alloc (.cells #[.int .u64 (a : Int)] 23) := by
  by_cases h1 : w = 32
  · subst h1
    exact fit_one32 W.heap.size a _ (cell_one0 ..)
  · by_cases h2 : w = 64
    · subst h2
      exact fit_one64 W.heap.size a _ (cell_one0 ..)
    · have : okW w a = false := by simp [okW, h1, h2]
      rw [this]
      exact fit_none w h1 h2 _ _

theorem okW_of {w a : Nat} (hw : IsW w) (ha : a < 2 ^ w) : okW w a = true := by
  rcases hw with rfl | rfl
  · unfold okW; simp; omega
  · rfl
theorem of_okW {w : Int} {a : Nat} (h64 : a < 2 ^ 64) (h : okW w a = true) : ∃ n : Nat, w = n ∧ IsW n ∧ a < 2 ^ n := by
  unfold okW at h
  simp only [Bool.or_eq_true, beq_iff_eq, Bool.and_eq_true, decide_eq_true_eq] at h
  rcases h with h | ⟨h, h2⟩
  · exact ⟨64, h, .inr rfl, h64⟩
  · exact ⟨32, h, .inl rfl, by omega⟩
end Go.Proofs.YtpeckiaimellmaaDoor.F
