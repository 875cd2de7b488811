/-
  What lanes asks of ints: the widths, whether a number is of one (mklan.py made it of the ints texts).
-/
import Derived.Test.YtdhanapmknlobaaDoorLanTabs
import Derived.WalkKit
import Derived.WalkLawsBesides
import Derived.Laws.BitsLemmas
import Derived.Laws.Bits64b
import Derived.Laws.Rows
set_option linter.unusedVariables false
set_option linter.unusedSimpArgs false
namespace Go.Proofs.YtdhanapmknlobaaDoor
open Go.RowKit

def IsW (w : Nat) : Prop := w = 8 ∨ w = 16 ∨ w = 32 ∨ w = 64
theorem IsW.le {w : Nat} (h : IsW w) : w ≤ 64 := by rcases h with rfl | rfl | rfl | rfl <;> decide
theorem IsW.pos {w : Nat} (h : IsW w) : 0 < w := by rcases h with rfl | rfl | rfl | rfl <;> decide

structure Hide (p : Prop) : Prop where out : p

theorem hide {p : Prop} (h : p) : Hide p := ⟨h⟩

def mo (w : Nat) : Int := 2 ^ w - 1

/-- A number of the width. -/
def Of (w : Nat) (a : Int) : Prop := 0 ≤ a ∧ a < 2 ^ w

set_option maxHeartbeats 400000 in
theorem most_calls {w : Nat} (hw : IsW w) (W : World) :
    Calls Tryd.prog 52 #[.int .i64 (w : Int)] W fun e W' => e = .returned (.int .u64 (mo w)) ∧ W' = W := by
  rcases hw with rfl | rfl | rfl | rfl <;>
  · go_enter Tryd.func52, Tryd.ntmps52
    go_wp2
    go_ret
    exact ⟨rfl, rfl⟩

set_option maxHeartbeats 400000 in
theorem rmost_calls {w : Nat} (hw : IsW w) (W : World) :
    Calls Tryd.prog 47 #[.int .i64 (w : Int)] W fun e W' => e = .returned (.int .u64 (mo w)) ∧ W' = W := by
  rcases hw with rfl | rfl | rfl | rfl <;>
  · go_enter Tryd.func47, Tryd.ntmps47
    go_wp2
    go_ret
    exact ⟨rfl, rfl⟩

def isW (w : Int) : Bool := w == 8 || w == 16 || w == 32 || w == 64

theorem width_calls (w : Int) (W : World) :
    Calls Tryd.prog 36 #[.int .i64 w] W fun e W' => e = .returned (.bool (isW w)) ∧ W' = W := by
  go_enter Tryd.func36, Tryd.ntmps36
  go_wp2
  all_goals go_ret
  all_goals (first | exact ⟨rfl, rfl⟩ | (simp_all [isW]; done))

set_option maxHeartbeats 400000 in
theorem rfits_calls {w : Nat} (hw : IsW w) (a : Int) (W : World) :
    Calls Tryd.prog 40 #[.int .i64 (w : Int), .int .u64 a] W fun e W' => e = .returned (.bool (decide (a ≤ mo w))) ∧ W' = W := by
  have C := hide (rmost_calls hw)
  go_enter Tryd.func40, Tryd.ntmps40
  go_wp2_with (with_reducible refine (C.out _).mono ?_; rintro e w1 ⟨rfl, rfl⟩)
  go_ret
  exact ⟨rfl, rfl⟩

theorem isW_iff (w : Int) : isW w = true ↔ ∃ n : Nat, w = n ∧ IsW n := by
  unfold isW IsW
  simp only [Bool.or_eq_true, beq_iff_eq]
  constructor
  · rintro (((h | h) | h) | h)
    · exact ⟨8, h, by simp⟩
    · exact ⟨16, h, by simp⟩
    · exact ⟨32, h, by simp⟩
    · exact ⟨64, h, by simp⟩
  · rintro ⟨n, rfl, h⟩
    omega

set_option maxHeartbeats 1000000 in
theorem isWidth_calls (w : Int) (W : World) (hT : WTabs W) :
    Calls Tryd.prog 51 #[.int .i64 w] W fun e W' => e = .returned (.bool (isW w)) ∧ W' = W := by
  obtain ⟨t, fr, hg⟩ := hT.widths
  clear hT
  have i0 : ∀ w : World, (Instr.index 67 (.agg #[.int .i64 8, .int .i64 16, .int .i64 32, .int .i64 64]) (.int .i64 0)).run Tryd.prog w = .ok (.int .i64 8) w := fun _ => by kernel_rfl
  have i1 : ∀ w : World, (Instr.index 67 (.agg #[.int .i64 8, .int .i64 16, .int .i64 32, .int .i64 64]) (.int .i64 1)).run Tryd.prog w = .ok (.int .i64 16) w := fun _ => by kernel_rfl
  have i2 : ∀ w : World, (Instr.index 67 (.agg #[.int .i64 8, .int .i64 16, .int .i64 32, .int .i64 64]) (.int .i64 2)).run Tryd.prog w = .ok (.int .i64 32) w := fun _ => by kernel_rfl
  have i3 : ∀ w : World, (Instr.index 67 (.agg #[.int .i64 8, .int .i64 16, .int .i64 32, .int .i64 64]) (.int .i64 3)).run Tryd.prog w = .ok (.int .i64 64) w := fun _ => by kernel_rfl
  go_enter Tryd.func51, Tryd.ntmps51
  go_wp2_with (refine wpList_load_row rfl 67 _ rfl 0 rfl t _ fr _ hg under4 rfl (by kernel_rfl) ?_)
  go_loop [6] (fun x => ∃ k : Nat, x = .int .i64 (k : Int) ∧ k ≤ 4 ∧ (0 < k → w ≠ 8) ∧ (1 < k → w ≠ 16) ∧ (2 < k → w ≠ 32) ∧ (3 < k → w ≠ 64)) (fun x => (4 - (intOf x).toNat))
  case atStart => exact ⟨0, rfl, by omega, by omega, by omega, by omega, by omega⟩
  case round =>
    obtain ⟨k, rfl, hk, c0, c1, c2, c3⟩ := hrel
    rcases (show k = 0 ∨ k = 1 ∨ k = 2 ∨ k = 3 ∨ k = 4 by omega) with rfl | rfl | rfl | rfl | rfl
    all_goals simp at c0 c1 c2 c3
    · by_cases c : w = 8
      · subst c
        go_wp2
        go_ret
        exact ⟨rfl, rfl⟩
      · go_wp2
        exact ⟨⟨1, rfl, by omega, by omega, by omega, by omega, by omega⟩, by simp [intOf]⟩
    · by_cases c : w = 16
      · subst c
        go_wp2
        go_ret
        exact ⟨rfl, rfl⟩
      · go_wp2
        exact ⟨⟨2, rfl, by omega, by omega, by omega, by omega, by omega⟩, by simp [intOf]⟩
    · by_cases c : w = 32
      · subst c
        go_wp2
        go_ret
        exact ⟨rfl, rfl⟩
      · go_wp2
        exact ⟨⟨3, rfl, by omega, by omega, by omega, by omega, by omega⟩, by simp [intOf]⟩
    · by_cases c : w = 64
      · subst c
        go_wp2
        go_ret
        exact ⟨rfl, rfl⟩
      · go_wp2
        exact ⟨⟨4, rfl, by omega, by omega, by omega, by omega, by omega⟩, by simp [intOf]⟩
    · go_wp2
      go_ret
      refine ⟨?_, rfl⟩
      have : isW w = false := by
        unfold isW
        simp only [Bool.or_eq_false_iff, beq_eq_false_iff_ne, ne_eq]
        omega
      rw [this]; rfl

set_option maxHeartbeats 1000000 in
theorem fit_none (w : Int) (hw : isW w = false) (v : Value) (W : World) (hT : WTabs W) :
    Calls Tryd.prog 48 #[.int .i64 w, v] W fun e W' => e = .returned (.bool false) ∧ W' = W := by
  have C := hide (isWidth_calls w W hT)
  rw [hw] at C
  go_enter Tryd.func48, Tryd.ntmps48
  go_wp2_with (with_reducible refine (C.out).mono ?_; rintro e w1 ⟨rfl, rfl⟩)
  go_ret
  exact ⟨rfl, rfl⟩

set_option maxHeartbeats 1000000 in
theorem fit_one {w : Nat} (hw : IsW w) (g : Nat) (a : Int) (W : World) (hT : WTabs W) (h0 : W.cell? ⟨g, 0, none⟩ = some (.int .u64 a)) :
    Calls Tryd.prog 48 #[.int .i64 (w : Int), .slice (some ⟨g, 0, none⟩) 1 1] W fun e W' => e = .returned (.bool (decide (a ≤ mo w))) ∧ W' = W := by
  have C := hide (isWidth_calls w W hT)
  rw [(isW_iff w).2 ⟨w, rfl, hw⟩] at C
  have D := hide (most_calls hw)
  clear hT
  go_enter Tryd.func48, Tryd.ntmps48
  go_wp2_with (with_reducible refine (C.out).mono ?_; rintro e w1 ⟨rfl, rfl⟩)
  go_loop [12] (fun x => ∃ k : Nat, x = .int .i64 (k : Int) ∧ k ≤ 1 ∧ (0 < k → a ≤ mo w)) (fun x => (1 - (intOf x).toNat))
  case atStart => exact ⟨0, rfl, by omega, by omega⟩
  case round =>
    obtain ⟨k, rfl, hk, c0⟩ := hrel
    rcases (show k = 0 ∨ k = 1 by omega) with rfl | rfl
    all_goals simp at c0
    · by_cases c : a ≤ mo w
      · have c' : decide (a > mo w) = false := by simp; omega
        go_wp2_with (with_reducible refine (D.out _).mono ?_; rintro e w1 ⟨rfl, rfl⟩)
        exact ⟨⟨1, rfl, by omega, by omega⟩, by simp [intOf]⟩
      · have c' : decide (a > mo w) = true := by simp; omega
        go_wp2_with (with_reducible refine (D.out _).mono ?_; rintro e w1 ⟨rfl, rfl⟩)
        go_ret
        exact ⟨by simp [c], rfl⟩
    · go_wp2
      go_ret
      exact ⟨by simp [c0], rfl⟩

set_option maxHeartbeats 1000000 in
theorem fit_nil {w : Nat} (hw : IsW w) (W : World) (hT : WTabs W) :
    Calls Tryd.prog 48 #[.int .i64 (w : Int), .slice none 0 0] W fun e W' => e = .returned (.bool true) ∧ W' = W := by
  have C := hide (isWidth_calls w W hT)
  rw [(isW_iff w).2 ⟨w, rfl, hw⟩] at C
  clear hT
  go_enter Tryd.func48, Tryd.ntmps48
  go_wp2_with (with_reducible refine (C.out).mono ?_; rintro e w1 ⟨rfl, rfl⟩)
  go_loop [12] (fun x => x = .int .i64 0) (fun x => 0)
  case atStart => rfl
  case round =>
    subst hrel
    go_wp2
    go_ret
    exact ⟨rfl, rfl⟩

theorem mo_ge {w : Nat} {a : Int} (h : Of w a) : a ≤ mo w := by unfold mo; have := h.2; omega

theorem of_mo {w : Nat} {a : Int} (h0 : 0 ≤ a) : a ≤ mo w ↔ Of w a := by unfold mo Of; omega

theorem below_two (W : World) (o : Obj) : Below W.heap.size W (W.alloc o) := (Below.refl W.heap.size W).alloc (Nat.le_refl _) _

theorem cell_one0 (W : World) (x : Value) (t : TypeId) : (W.alloc (.cells #[x] t)).cell? ⟨W.heap.size, 0, none⟩ = some x := by simp

def ok1 (w : Int) (a : Int) : Bool := isW w && decide (a ≤ mo w.toNat)

theorem fit1 (w : Int) (a : Int) (W : World) (hT : WTabs W) :
    Calls Tryd.prog 48 #[.int .i64 w, .slice (some ⟨W.heap.size, 0, none⟩) 1 1] (W.alloc (.cells #[.int .u64 a] 22)) fun e W' => e = .returned (.bool (ok1 w a)) ∧ W' = W.alloc (.cells #[.int .u64 a] 22) := by
  have hT' := hT.later (below_two W (.cells #[.int .u64 a] 22))
  unfold ok1
  cases h : isW w with
  | false => simpa using fit_none w h _ _ hT'
  | true =>
    obtain ⟨n, rfl, hn⟩ := (isW_iff w).1 h
    simpa using fit_one hn W.heap.size a _ hT' (cell_one0 ..)

theorem fit0 (w : Int) (W : World) (hT : WTabs W) :
    Calls Tryd.prog 48 #[.int .i64 w, .slice none 0 0] W fun e W' => e = .returned (.bool (isW w)) ∧ W' = W := by
  cases h : isW w with
  | false => exact fit_none w h _ _ hT
  | true =>
    obtain ⟨n, rfl, hn⟩ := (isW_iff w).1 h
    exact fit_nil hn _ hT

theorem ok1_of {w : Nat} (hw : IsW w) {a : Int} (ha : Of w a) : ok1 w a = true := by
  unfold ok1
  rw [(isW_iff w).2 ⟨w, rfl, hw⟩]
  simp [mo_ge ha]

theorem of_ok1 {w a : Int} (h0 : 0 ≤ a) (h : ok1 w a = true) : ∃ n : Nat, w = n ∧ IsW n ∧ Of n a := by
  unfold ok1 at h
  simp only [Bool.and_eq_true, decide_eq_true_eq] at h
  obtain ⟨n, rfl, hn⟩ := (isW_iff w).1 h.1
  exact ⟨n, rfl, hn, (of_mo h0).1 h.2⟩

/-! The operators of two -/

/-- An answer with its error, as it is returned. -/
def pairV (p : Int × Int) : Value := .tuple #[.int .u64 p.1, .int .i64 p.2]

set_option maxRecDepth 100000 in
set_option maxHeartbeats 2000000 in
theorem ext_calls (f : Int) (a : Int) (W : World) (hT : WTabs W) :
    Calls Tryd.prog 45 #[.int .i64 f, .int .i64 64, .bool false, .int .u64 a] W fun e W' => e = .returned (pairV (if ok1 f a then (a, 0) else (0, 2))) ∧ Below W.heap.size W W' := by
  have F := fit1 f a W hT
  have B := hide (below_two W (.cells #[.int .u64 a] 22))
  have hT' := hT.later (below_two W (.cells #[.int .u64 a] 22))
  cases h : ok1 f a with
  | false =>
    rw [h] at F
    have F := hide F
    clear hT hT' h
    go_enter Tryd.func45, Tryd.ntmps45
    go_wp2_with (with_reducible refine F.out.mono ?_; rintro e w1 ⟨rfl, rfl⟩)
    refine bodyPost_ret (v := .tuple #[.int .u64 0, .int .i64 2]) (by simp [results, Tryd.results45, go_sem]) rfl ?_
    exact ⟨rfl, B.out⟩
  | true =>
    rw [h] at F
    have F := hide F
    have FT := fit0 64 _ hT'
    rw [show isW 64 = true from rfl] at FT
    have FT := hide FT
    obtain ⟨n, rfl, hn⟩ : ∃ n : Nat, f = n ∧ IsW n := by
      unfold ok1 at h
      simp only [Bool.and_eq_true] at h
      exact (isW_iff f).1 h.1
    have D : decide ((64 : Int) < (n : Int)) = false := by have := hn.le; simp; omega
    have D2 : ¬ ((64 : Int) < (n : Int)) := by have := hn.le; omega
    clear hT hT' h hn
    go_enter Tryd.func45, Tryd.ntmps45
    go_wp2_with (first | (with_reducible refine F.out.mono ?_; rintro e w1 ⟨rfl, rfl⟩) | (with_reducible refine FT.out.mono ?_; rintro e w1 ⟨rfl, rfl⟩))
    refine bodyPost_ret (v := .tuple #[.int .u64 a, .int .i64 0]) (by simp [results, Tryd.results45, go_sem]) rfl ?_
    exact ⟨rfl, B.out⟩
end Go.Proofs.YtdhanapmknlobaaDoor
