/-
  IntsTabs, LanTabs, LanInts, LanMath, LanCode, LanBytes, LanOf, LanGet, LanSplat, LanLists, LanAll, LanShut.
-/
import Derived.Test.YtpeckiaimellmaaDoorRows
import Derived.Lib.LaidU8
import Derived.Lib.LaidTab
import Derived.Shelf.Spec.TrailingZeros
import Derived.KernelRfl
import Derived.Below
import Derived.WalkKit
import Derived.WalkLawsBesides
import Derived.Laws.BitsLemmas
import Derived.Laws.Bits64b
import Derived.Laws.Rows
import Derived.Laws.BitsAllLaws
import Derived.Deep.QuietTactic
import Derived.BigQuiet
import Derived.Laws.Tables
import Derived.Deep.OwnRows
import Derived.ProofKit
import Derived.OpenShut
/-
  What the rows' list of tables gives: the widths, and math/bits' table for the lowest bit.
-/
set_option linter.unusedVariables false
namespace Go.Proofs.YtpeckiaimellmaaDoor
open Go.Shelf Go.Lib Go.RowKit

def widthsTab : List Int := [8, 16, 32, 64]

/-- The tables' cells, as the walks ask for them. -/
structure WTabs (w : World) : Prop where
  widths : ∃ t fr, w.heap[1]? = some (.cells #[.int .i64 8, .int .i64 16, .int .i64 32, .int .i64 64] t fr)
theorem widths_is : (Rows.laid_jacquard_ints_widths : DataW Unit) = tabData .i64 widthsTab := by kernel_rfl
theorem widths_named : Tryd.prog.globalNamed "jacquard/ints.widths" = some 1 := by kernel_rfl
theorem widths_type : (Tryd.prog.globals[1]?).map (·.type) = some 117 := by kernel_rfl
theorem under4 : Tryd.prog.underlying 117 = some (.array 4 3) := by kernel_rfl
theorem underi : Tryd.prog.underlying 3 = some (.int .i64) := by kernel_rfl
theorem underb : Tryd.prog.underlying 5 = some (.int .u8) := by kernel_rfl
theorem cells4 : Tryd.prog.cellsOf 117 = 4 := by kernel_rfl
theorem cellsi : Tryd.prog.cellsOf 3 = 1 := by kernel_rfl
theorem cellsb : Tryd.prog.cellsOf 5 = 1 := by kernel_rfl

theorem wtabs_reads {W : World} (h1 : VarReads Tryd.prog W "jacquard/ints.widths" (tabData .i64 widthsTab)) : WTabs W := by
  refine ⟨?_⟩
  obtain ⟨g, t, cs, fuel, p, hg, hty, hvar, hd⟩ := h1
  obtain rfl := Option.some.inj (widths_named.symm.trans hg)
  obtain rfl := Option.some.inj (widths_type.symm.trans hty)
  have hcs := cells_of_tab under4 underi cellsi cells4 hd
  simp only [World.var?, widths_named, Option.bind_some] at hvar
  split at hvar
  · next cs' t' fr he =>
    refine ⟨t', fr, ?_⟩
    rw [he]
    obtain rfl := Option.some.inj hvar
    have e : cs' = #[.int .i64 8, .int .i64 16, .int .i64 32, .int .i64 64] := by
      rw [← Array.toList_inj, hcs]; rfl
    rw [e]
  · cases hvar
theorem wtabs_of {W : World} (h : laidMet Tryd.prog [("jacquard/ints.widths", Rows.laid_jacquard_ints_widths)] W) : WTabs W :=
  wtabs_reads (laidMet.reads h (by rw [widths_is]; simp))
theorem WTabs.later {w w' : World} (h : WTabs w) (hb : Below w.heap.size w w') : WTabs w' := by
  obtain ⟨t, fr, e⟩ := h.widths
  refine ⟨t, fr, ?_⟩
  rw [hb.block _ ?_]
  · exact e
  · rcases Nat.lt_or_ge 1 w.heap.size with h' | h'
    · exact h'
    · rw [Array.getElem?_eq_none h'] at e; cases e
end Go.Proofs.YtpeckiaimellmaaDoor
/-
  The tables that lanes asks for: ints' (IntsTabs has them).
-/
/-
  What lanes asks of ints: the widths, whether a number is of one (mklan.py made it of the ints texts).
-/
set_option linter.unusedVariables false
set_option linter.unusedSimpArgs false
namespace Go.Proofs.YtpeckiaimellmaaDoor
open Go.RowKit

def IsW (w : Nat) : Prop := w = 8 ∨ w = 16 ∨ w = 32 ∨ w = 64
theorem IsW.le {w : Nat} (h : IsW w) : w ≤ 64 := by rcases h with rfl | rfl | rfl | rfl <;> decide
theorem IsW.pos {w : Nat} (h : IsW w) : 0 < w := by rcases h with rfl | rfl | rfl | rfl <;> decide

structure Hide (p : Prop) : Prop where out : p

theorem hide {p : Prop} (h : p) : Hide p := ⟨h⟩

def mo (w : Nat) : Int := 2 ^ w - 1

/-- A number of the width. -/
def Of (w : Nat) (a : Int) : Prop := 0 ≤ a ∧ a < 2 ^ w

set_option maxHeartbeats 400000 in
theorem most_calls {w : Nat} (hw : IsW w) (W : World) :
    Calls Tryd.prog 146 #[.int .i64 (w : Int)] W fun e W' => e = .returned (.int .u64 (mo w)) ∧ W' = W := by
  rcases hw with rfl | rfl | rfl | rfl <;>
  · go_enter Tryd.func146, Tryd.ntmps146
    go_wp2
    go_ret
    exact ⟨rfl, rfl⟩

set_option maxHeartbeats 400000 in
theorem rmost_calls {w : Nat} (hw : IsW w) (W : World) :
    Calls Tryd.prog 41 #[.int .i64 (w : Int)] W fun e W' => e = .returned (.int .u64 (mo w)) ∧ W' = W := by
  rcases hw with rfl | rfl | rfl | rfl <;>
  · go_enter Tryd.func41, Tryd.ntmps41
    go_wp2
    go_ret
    exact ⟨rfl, rfl⟩

def isW (w : Int) : Bool := w == 8 || w == 16 || w == 32 || w == 64

set_option maxHeartbeats 400000 in
theorem rfits_calls {w : Nat} (hw : IsW w) (a : Int) (W : World) :
    Calls Tryd.prog 96 #[.int .i64 (w : Int), .int .u64 a] W fun e W' => e = .returned (.bool (decide (a ≤ mo w))) ∧ W' = W := by
  have C := hide (rmost_calls hw)
  go_enter Tryd.func96, Tryd.ntmps96
  go_wp2_with (with_reducible refine (C.out _).mono ?_; rintro e w1 ⟨rfl, rfl⟩)
  go_ret
  exact ⟨rfl, rfl⟩

theorem isW_iff (w : Int) : isW w = true ↔ ∃ n : Nat, w = n ∧ IsW n := by
  unfold isW IsW
  simp only [Bool.or_eq_true, beq_iff_eq]
  constructor
  · rintro (((h | h) | h) | h)
    · exact ⟨8, h, by simp⟩
    · exact ⟨16, h, by simp⟩
    · exact ⟨32, h, by simp⟩
    · exact ⟨64, h, by simp⟩
  · rintro ⟨n, rfl, h⟩
    omega

set_option maxHeartbeats 1000000 in
theorem isWidth_calls (w : Int) (W : World) (hT : WTabs W) :
    Calls Tryd.prog 145 #[.int .i64 w] W fun e W' => e = .returned (.bool (isW w)) ∧ W' = W := by
  obtain ⟨t, fr, hg⟩ := hT.widths
  clear hT
  have i0 : ∀ w : World, (Instr.index 117 (.agg #[.int .i64 8, .int .i64 16, .int .i64 32, .int .i64 64]) (.int .i64 0)).run Tryd.prog w = .ok (.int .i64 8) w := fun _ => by kernel_rfl
  have i1 : ∀ w : World, (Instr.index 117 (.agg #[.int .i64 8, .int .i64 16, .int .i64 32, .int .i64 64]) (.int .i64 1)).run Tryd.prog w = .ok (.int .i64 16) w := fun _ => by kernel_rfl
  have i2 : ∀ w : World, (Instr.index 117 (.agg #[.int .i64 8, .int .i64 16, .int .i64 32, .int .i64 64]) (.int .i64 2)).run Tryd.prog w = .ok (.int .i64 32) w := fun _ => by kernel_rfl
  have i3 : ∀ w : World, (Instr.index 117 (.agg #[.int .i64 8, .int .i64 16, .int .i64 32, .int .i64 64]) (.int .i64 3)).run Tryd.prog w = .ok (.int .i64 64) w := fun _ => by kernel_rfl
  go_enter Tryd.func145, Tryd.ntmps145
  go_wp2_with (refine wpList_load_row rfl 117 _ rfl 1 rfl t _ fr _ hg under4 rfl (by kernel_rfl) ?_)
  go_loop [6] (fun x => ∃ k : Nat, x = .int .i64 (k : Int) ∧ k ≤ 4 ∧ (0 < k → w ≠ 8) ∧ (1 < k → w ≠ 16) ∧ (2 < k → w ≠ 32) ∧ (3 < k → w ≠ 64)) (fun x => (4 - (intOf x).toNat))
  case atStart => exact ⟨0, rfl, by omega, by omega, by omega, by omega, by omega⟩
  case round =>
    obtain ⟨k, rfl, hk, c0, c1, c2, c3⟩ := hrel
    rcases (show k = 0 ∨ k = 1 ∨ k = 2 ∨ k = 3 ∨ k = 4 by omega) with rfl | rfl | rfl | rfl | rfl
    all_goals simp at c0 c1 c2 c3
    · by_cases c : w = 8
      · subst c
        go_wp2
        go_ret
        exact ⟨rfl, rfl⟩
      · go_wp2
        exact ⟨⟨1, rfl, by omega, by omega, by omega, by omega, by omega⟩, by simp [intOf]⟩
    · by_cases c : w = 16
      · subst c
        go_wp2
        go_ret
        exact ⟨rfl, rfl⟩
      · go_wp2
        exact ⟨⟨2, rfl, by omega, by omega, by omega, by omega, by omega⟩, by simp [intOf]⟩
    · by_cases c : w = 32
      · subst c
        go_wp2
        go_ret
        exact ⟨rfl, rfl⟩
      · go_wp2
        exact ⟨⟨3, rfl, by omega, by omega, by omega, by omega, by omega⟩, by simp [intOf]⟩
    · by_cases c : w = 64
      · subst c
        go_wp2
        go_ret
        exact ⟨rfl, rfl⟩
      · go_wp2
        exact ⟨⟨4, rfl, by omega, by omega, by omega, by omega, by omega⟩, by simp [intOf]⟩
    · go_wp2
      go_ret
      refine ⟨?_, rfl⟩
      have : isW w = false := by
        unfold isW
        simp only [Bool.or_eq_false_iff, beq_eq_false_iff_ne, ne_eq]
        omega
      rw [this]; rfl

set_option maxHeartbeats 1000000 in
theorem fit_none (w : Int) (hw : isW w = false) (v : Value) (W : World) (hT : WTabs W) :
    Calls Tryd.prog 137 #[.int .i64 w, v] W fun e W' => e = .returned (.bool false) ∧ W' = W := by
  have C := hide (isWidth_calls w W hT)
  rw [hw] at C
  go_enter Tryd.func137, Tryd.ntmps137
  go_wp2_with (with_reducible refine (C.out).mono ?_; rintro e w1 ⟨rfl, rfl⟩)
  go_ret
  exact ⟨rfl, rfl⟩

set_option maxHeartbeats 1000000 in
theorem fit_one {w : Nat} (hw : IsW w) (g : Nat) (a : Int) (W : World) (hT : WTabs W) (h0 : W.cell? ⟨g, 0, none⟩ = some (.int .u64 a)) :
    Calls Tryd.prog 137 #[.int .i64 (w : Int), .slice (some ⟨g, 0, none⟩) 1 1] W fun e W' => e = .returned (.bool (decide (a ≤ mo w))) ∧ W' = W := by
  have C := hide (isWidth_calls w W hT)
  rw [(isW_iff w).2 ⟨w, rfl, hw⟩] at C
  have D := hide (most_calls hw)
  clear hT
  go_enter Tryd.func137, Tryd.ntmps137
  go_wp2_with (with_reducible refine (C.out).mono ?_; rintro e w1 ⟨rfl, rfl⟩)
  go_loop [12] (fun x => ∃ k : Nat, x = .int .i64 (k : Int) ∧ k ≤ 1 ∧ (0 < k → a ≤ mo w)) (fun x => (1 - (intOf x).toNat))
  case atStart => exact ⟨0, rfl, by omega, by omega⟩
  case round =>
    obtain ⟨k, rfl, hk, c0⟩ := hrel
    rcases (show k = 0 ∨ k = 1 by omega) with rfl | rfl
    all_goals simp at c0
    · by_cases c : a ≤ mo w
      · have c' : decide (a > mo w) = false := by simp; omega
        go_wp2_with (with_reducible refine (D.out _).mono ?_; rintro e w1 ⟨rfl, rfl⟩)
        exact ⟨⟨1, rfl, by omega, by omega⟩, by simp [intOf]⟩
      · have c' : decide (a > mo w) = true := by simp; omega
        go_wp2_with (with_reducible refine (D.out _).mono ?_; rintro e w1 ⟨rfl, rfl⟩)
        go_ret
        exact ⟨by simp [c], rfl⟩
    · go_wp2
      go_ret
      exact ⟨by simp [c0], rfl⟩

set_option maxHeartbeats 1000000 in
theorem fit_nil {w : Nat} (hw : IsW w) (W : World) (hT : WTabs W) :
    Calls Tryd.prog 137 #[.int .i64 (w : Int), .slice none 0 0] W fun e W' => e = .returned (.bool true) ∧ W' = W := by
  have C := hide (isWidth_calls w W hT)
  rw [(isW_iff w).2 ⟨w, rfl, hw⟩] at C
  clear hT
  go_enter Tryd.func137, Tryd.ntmps137
  go_wp2_with (with_reducible refine (C.out).mono ?_; rintro e w1 ⟨rfl, rfl⟩)
  go_loop [12] (fun x => x = .int .i64 0) (fun x => 0)
  case atStart => rfl
  case round =>
    subst hrel
    go_wp2
    go_ret
    exact ⟨rfl, rfl⟩

theorem mo_ge {w : Nat} {a : Int} (h : Of w a) : a ≤ mo w := by unfold mo; have := h.2; omega

theorem of_mo {w : Nat} {a : Int} (h0 : 0 ≤ a) : a ≤ mo w ↔ Of w a := by unfold mo Of; omega

theorem below_two (W : World) (o : Obj) : Below W.heap.size W (W.alloc o) := (Below.refl W.heap.size W).alloc (Nat.le_refl _) _

theorem cell_one0 (W : World) (x : Value) (t : TypeId) : (W.alloc (.cells #[x] t)).cell? ⟨W.heap.size, 0, none⟩ = some x := by simp

def ok1 (w : Int) (a : Int) : Bool := isW w && decide (a ≤ mo w.toNat)

theorem fit1 (w : Int) (a : Int) (W : World) (hT : WTabs W) :
    Calls Tryd.prog 137 #[.int .i64 w, .slice (some ⟨W.heap.size, 0, none⟩) 1 1] (W.alloc (.cells #[.int .u64 a] 23)) fun e W' => e = .returned (.bool (ok1 w a)) ∧ W' = W.alloc (.cells #[.int .u64 a] 23) := by
  have hT' := hT.later (below_two W (.cells #[.int .u64 a] 23))
  unfold ok1
  cases h : isW w with
  | false => simpa using fit_none w h _ _ hT'
  | true =>
    obtain ⟨n, rfl, hn⟩ := (isW_iff w).1 h
    simpa using fit_one hn W.heap.size a _ hT' (cell_one0 ..)

theorem fit0 (w : Int) (W : World) (hT : WTabs W) :
    Calls Tryd.prog 137 #[.int .i64 w, .slice none 0 0] W fun e W' => e = .returned (.bool (isW w)) ∧ W' = W := by
  cases h : isW w with
  | false => exact fit_none w h _ _ hT
  | true =>
    obtain ⟨n, rfl, hn⟩ := (isW_iff w).1 h
    exact fit_nil hn _ hT

theorem ok1_of {w : Nat} (hw : IsW w) {a : Int} (ha : Of w a) : ok1 w a = true := by
  unfold ok1
  rw [(isW_iff w).2 ⟨w, rfl, hw⟩]
  simp [mo_ge ha]

theorem of_ok1 {w a : Int} (h0 : 0 ≤ a) (h : ok1 w a = true) : ∃ n : Nat, w = n ∧ IsW n ∧ Of n a := by
  unfold ok1 at h
  simp only [Bool.and_eq_true, decide_eq_true_eq] at h
  obtain ⟨n, rfl, hn⟩ := (isW_iff w).1 h.1
  exact ⟨n, rfl, hn, (of_mo h0).1 h.2⟩

/-! The operators of two -/

/-- An answer with its error, as it is returned. -/
def pairV (p : Int × Int) : Value := .tuple #[.int .u64 p.1, .int .i64 p.2]

set_option maxRecDepth 100000 in
set_option maxHeartbeats 2000000 in
theorem ext_calls (f : Int) (a : Int) (W : World) (hT : WTabs W) :
    Calls Tryd.prog 115 #[.int .i64 f, .int .i64 64, .bool false, .int .u64 a] W fun e W' => e = .returned (pairV (if ok1 f a then (a, 0) else (0, 2))) ∧ Below W.heap.size W W' := by
  have F := fit1 f a W hT
  have B := hide (below_two W (.cells #[.int .u64 a] 23))
  have hT' := hT.later (below_two W (.cells #[.int .u64 a] 23))
  cases h : ok1 f a with
  | false =>
    rw [h] at F
    have F := hide F
    clear hT hT' h
    go_enter Tryd.func115, Tryd.ntmps115
    go_wp2_with (with_reducible refine F.out.mono ?_; rintro e w1 ⟨rfl, rfl⟩)
    refine bodyPost_ret (v := .tuple #[.int .u64 0, .int .i64 2]) (by simp [results, Tryd.results115, go_sem]) rfl ?_
    exact ⟨rfl, B.out⟩
  | true =>
    rw [h] at F
    have F := hide F
    have FT := fit0 64 _ hT'
    rw [show isW 64 = true from rfl] at FT
    have FT := hide FT
    obtain ⟨n, rfl, hn⟩ : ∃ n : Nat, f = n ∧ IsW n := by
      unfold ok1 at h
      simp only [Bool.and_eq_true] at h
      exact (isW_iff f).1 h.1
    have D : decide ((64 : Int) < (n : Int)) = false := by have := hn.le; simp; omega
    have D2 : ¬ ((64 : Int) < (n : Int)) := by have := hn.le; omega
    clear hT hT' h hn
    go_enter Tryd.func115, Tryd.ntmps115
    go_wp2_with (first | (with_reducible refine F.out.mono ?_; rintro e w1 ⟨rfl, rfl⟩) | (with_reducible refine FT.out.mono ?_; rintro e w1 ⟨rfl, rfl⟩))
    refine bodyPost_ret (v := .tuple #[.int .u64 a, .int .i64 0]) (by simp [results, Tryd.results115, go_sem]) rfl ?_
    exact ⟨rfl, B.out⟩
end Go.Proofs.YtpeckiaimellmaaDoor
/-
  Vectors of two words, bit by bit: lanes, lanes that are laid, the vector of lanes; rows of bytes (no program).
-/
set_option linter.unusedVariables false
namespace Go.Proofs.YtpeckiaimellmaaDoor.Lan

def WW (w : Nat) : Prop := w = 8 ∨ w = 16 ∨ w = 32 ∨ w = 64
/-- The bit k of a vector. -/
def bv (v : Nat × Nat) (k : Nat) : Bool := if k < 64 then v.1.testBit k else v.2.testBit (k - 64)
def Vok (v : Nat × Nat) : Prop := v.1 < 2 ^ 64 ∧ v.2 < 2 ^ 64

theorem tb_high {x n k : Nat} (h : x < 2 ^ n) (hk : n ≤ k) : x.testBit k = false :=
  Nat.testBit_lt_two_pow (Nat.lt_of_lt_of_le h (Nat.pow_le_pow_right (by decide) hk))

theorem word_ext {x y : Nat} (hx : x < 2 ^ 64) (hy : y < 2 ^ 64) (h : ∀ k, k < 64 → x.testBit k = y.testBit k) : x = y := by
  apply Nat.eq_of_testBit_eq
  intro k
  by_cases c : k < 64
  · exact h k c
  · rw [tb_high hx (by omega), tb_high hy (by omega)]

theorem vec_ext {u v : Nat × Nat} (hu : Vok u) (hv : Vok v) (h : ∀ k, k < 128 → bv u k = bv v k) : u = v := by
  have h1 : u.1 = v.1 := word_ext hu.1 hv.1 (fun k hk => by have := h k (by omega); unfold bv at this; rwa [if_pos hk, if_pos hk] at this)
  have h2 : u.2 = v.2 := word_ext hu.2 hv.2 (fun k hk => by
    have := h (k + 64) (by omega); unfold bv at this
    rw [if_neg (by omega), if_neg (by omega)] at this
    simpa using this)
  cases u; cases v; simp only at h1 h2; rw [h1, h2]

/-- The lane i of width w. -/
def laneN (v : Nat × Nat) (w i : Nat) : Nat := if i * w < 64 then v.1 / 2 ^ (i * w) % 2 ^ w else v.2 / 2 ^ (i * w - 64) % 2 ^ w

theorem laneN_lt (v : Nat × Nat) (w i : Nat) : laneN v w i < 2 ^ w := by
  unfold laneN; split <;> exact Nat.mod_lt _ (Nat.two_pow_pos w)

theorem in_word {w i : Nat} (hw : WW w) (hi : i < 128 / w) : i * w + w ≤ 128 ∧ (i * w < 64 → i * w + w ≤ 64) := by
  rcases hw with rfl | rfl | rfl | rfl <;> omega

theorem tb_lane {v : Nat × Nat} {w i : Nat} (hw : WW w) (hi : i < 128 / w) (j : Nat) : (laneN v w i).testBit j = (decide (j < w) && bv v (i * w + j)) := by
  obtain ⟨h1, h2⟩ := in_word hw hi
  unfold laneN
  by_cases c : i * w < 64
  · rw [if_pos c, Nat.testBit_mod_two_pow, Nat.testBit_div_two_pow]
    by_cases d : j < w
    · simp only [d, decide_true, Bool.true_and]
      unfold bv
      rw [if_pos (by have := h2 c; omega)]
      congr 1; omega
    · simp [d]
  · rw [if_neg c, Nat.testBit_mod_two_pow, Nat.testBit_div_two_pow]
    by_cases d : j < w
    · simp only [d, decide_true, Bool.true_and]
      unfold bv
      rw [if_neg (by omega)]
      congr 1
      omega
    · simp [d]

/-- The word x, but with n as its w bits from a on. -/
def patchN (x w a n : Nat) : Nat := 2 ^ a * (2 ^ w * (x / 2 ^ (a + w)) + n) + x % 2 ^ a

theorem tb_patch {x w a n : Nat} (hn : n < 2 ^ w) (k : Nat) : (patchN x w a n).testBit k = if a ≤ k ∧ k < a + w then n.testBit (k - a) else x.testBit k := by
  unfold patchN
  rw [Nat.testBit_two_pow_mul_add _ (Nat.mod_lt _ (Nat.two_pow_pos a))]
  by_cases c : k < a
  · rw [if_pos c, if_neg (by omega), Nat.testBit_mod_two_pow]; simp [c]
  · rw [if_neg c, Nat.testBit_two_pow_mul_add _ hn]
    by_cases d : k - a < w
    · rw [if_pos d, if_pos (by omega)]
    · rw [if_neg d, if_neg (by omega), Nat.testBit_div_two_pow]
      congr 1; omega

theorem patch_lt {x w a n : Nat} (hx : x < 2 ^ 64) (hn : n < 2 ^ w) (h : a + w ≤ 64) : patchN x w a n < 2 ^ 64 := by
  apply Nat.lt_pow_two_of_testBit
  intro k hk
  rw [tb_patch hn, if_neg (by omega)]
  exact tb_high hx hk

/-- v, but with n as its lane i. -/
def withN (v : Nat × Nat) (w i n : Nat) : Nat × Nat := if i * w < 64 then (patchN v.1 w (i * w) n, v.2) else (v.1, patchN v.2 w (i * w - 64) n)

theorem bv_with {v : Nat × Nat} {w i n : Nat} (hw : WW w) (hi : i < 128 / w) (hn : n < 2 ^ w) (k : Nat) :
    bv (withN v w i n) k = if i * w ≤ k ∧ k < i * w + w then n.testBit (k - i * w) else bv v k := by
  obtain ⟨h1, h2⟩ := in_word hw hi
  unfold withN
  by_cases c : i * w < 64
  · rw [if_pos c]
    have h3 := h2 c
    unfold bv
    by_cases d : k < 64
    · simp only [if_pos d]; exact tb_patch hn k
    · simp only [if_neg d]; rw [if_neg (by omega)]
  · rw [if_neg c]
    unfold bv
    by_cases d : k < 64
    · simp only [if_pos d]; rw [if_neg (by omega)]
    · simp only [if_neg d]; rw [tb_patch hn]
      by_cases e : i * w ≤ k ∧ k < i * w + w
      · rw [if_pos e, if_pos (by omega)]; congr 1; omega
      · rw [if_neg e, if_neg (by omega)]

theorem with_ok {v : Nat × Nat} {w i n : Nat} (hw : WW w) (hi : i < 128 / w) (hn : n < 2 ^ w) (hv : Vok v) : Vok (withN v w i n) := by
  obtain ⟨h1, h2⟩ := in_word hw hi
  unfold withN
  by_cases c : i * w < 64
  · rw [if_pos c]; exact ⟨patch_lt hv.1 hn (h2 c), hv.2⟩
  · rw [if_neg c]; exact ⟨hv.1, patch_lt hv.2 hn (by omega)⟩

/-- A number of a list, 0 beyond it. -/
def at0 (l : List Nat) (i : Nat) : Nat := l[i]?.getD 0

/-- The first m lanes laid. -/
def vecTo (w : Nat) (l : List Nat) : Nat → Nat × Nat
  | 0 => (0, 0)
  | m + 1 => withN (vecTo w l m) w m (at0 l m)
def vecN (w : Nat) (l : List Nat) : Nat × Nat := vecTo w l (128 / w)
def Lanes (w : Nat) (l : List Nat) : Prop := ∀ i, at0 l i < 2 ^ w

theorem vecTo_ok {w : Nat} {l : List Nat} (hw : WW w) (hl : Lanes w l) : ∀ m, m ≤ 128 / w → Vok (vecTo w l m)
  | 0, _ => ⟨Nat.two_pow_pos 64, Nat.two_pow_pos 64⟩
  | m + 1, h => with_ok hw (by omega) (hl m) (vecTo_ok hw hl m (by omega))

theorem bv_vecTo {w : Nat} {l : List Nat} (hw : WW w) (hl : Lanes w l) (k : Nat) : ∀ m, m ≤ 128 / w → bv (vecTo w l m) k = (decide (k < m * w) && (at0 l (k / w)).testBit (k % w))
  | 0, _ => by simp [vecTo, bv]
  | m + 1, h => by
    have hp : 0 < w := by rcases hw with rfl | rfl | rfl | rfl <;> decide
    rw [vecTo, bv_with hw (by omega) (hl m), bv_vecTo hw hl k m (by omega)]
    have e : (m + 1) * w = m * w + w := Nat.succ_mul m w
    rw [e]
    by_cases c : m * w ≤ k ∧ k < m * w + w
    · rw [if_pos c]
      have h1 : k / w = m := by
        apply Nat.div_eq_of_lt_le
        · exact c.1
        · rw [e]; exact c.2
      have h2 : k % w = k - m * w := by
        have := Nat.div_add_mod k w
        rw [h1, Nat.mul_comm] at this
        omega
      rw [h1, h2]
      simp [c.2]
    · rw [if_neg c]
      by_cases d : k < m * w
      · simp [d, show k < m * w + w by omega]
      · simp [d, show ¬ k < m * w + w by omega]

theorem bv_vec {w : Nat} {l : List Nat} (hw : WW w) (hl : Lanes w l) (k : Nat) (hk : k < 128) : bv (vecN w l) k = (at0 l (k / w)).testBit (k % w) := by
  unfold vecN
  rw [bv_vecTo hw hl k _ (Nat.le_refl _)]
  have : k < 128 / w * w := by rcases hw with rfl | rfl | rfl | rfl <;> omega
  simp [this]

/-- All lanes. -/
def listN (v : Nat × Nat) (w : Nat) : List Nat := (List.range (128 / w)).map (laneN v w)

theorem listN_length (v : Nat × Nat) (w : Nat) : (listN v w).length = 128 / w := by simp [listN]
theorem at_list (v : Nat × Nat) (w i : Nat) (hi : i < 128 / w) : at0 (listN v w) i = laneN v w i := by
  simp [at0, listN, List.getElem?_range hi]
theorem list_lanes (v : Nat × Nat) (w : Nat) : Lanes w (listN v w) := by
  intro i
  by_cases h : i < 128 / w
  · rw [at_list v w i h]; exact laneN_lt v w i
  · have e : (listN v w)[i]? = none := List.getElem?_eq_none (by rw [listN_length]; omega)
    unfold at0; rw [e]; exact Nat.two_pow_pos w

/-- The vector of all lanes is the vector. -/
theorem vec_list {v : Nat × Nat} {w : Nat} (hw : WW w) (hv : Vok v) : vecN w (listN v w) = v := by
  refine vec_ext (vecTo_ok hw (list_lanes v w) _ (Nat.le_refl _)) hv fun k hk => ?_
  rw [bv_vec hw (list_lanes v w) k hk]
  have h1 : k / w < 128 / w := by rcases hw with rfl | rfl | rfl | rfl <;> omega
  rw [at_list v w _ h1, tb_lane hw h1]
  have h2 : k % w < w := Nat.mod_lt _ (by rcases hw with rfl | rfl | rfl | rfl <;> decide)
  have h3 : k / w * w + k % w = k := by rw [Nat.mul_comm]; exact Nat.div_add_mod k w
  rw [h3]; simp [h2]

theorem lane_ext {x y w : Nat} (hx : x < 2 ^ w) (hy : y < 2 ^ w) (h : ∀ j, j < w → x.testBit j = y.testBit j) : x = y := by
  apply Nat.eq_of_testBit_eq
  intro k
  by_cases c : k < w
  · exact h k c
  · rw [tb_high hx (by omega), tb_high hy (by omega)]

/-- A lane of the vector of lanes is it. -/
theorem lane_vec {w : Nat} {l : List Nat} (hw : WW w) (hl : Lanes w l) (i : Nat) (hi : i < 128 / w) : laneN (vecN w l) w i = at0 l i := by
  refine lane_ext (laneN_lt ..) (hl i) fun j hj => ?_
  have hp : 0 < w := by omega
  have h0 : i * w + j < 128 := by have := (in_word hw hi).1; omega
  rw [tb_lane hw hi, bv_vec hw hl _ h0]
  have h1 : (i * w + j) / w = i := by
    apply Nat.div_eq_of_lt_le
    · omega
    · rw [Nat.succ_mul]; omega
  have h2 : (i * w + j) % w = j := by rw [Nat.mul_comm, Nat.mul_add_mod, Nat.mod_eq_of_lt hj]
  rw [h1, h2]; simp [hj]

theorem lane_with {v : Nat × Nat} {w i n : Nat} (hw : WW w) (hi : i < 128 / w) (hn : n < 2 ^ w) (k : Nat) (hk : k < 128 / w) :
    laneN (withN v w i n) w k = if k = i then n else laneN v w k := by
  split
  · next e =>
    subst e
    refine lane_ext (laneN_lt ..) hn fun j hj => ?_
    rw [tb_lane hw hk, bv_with hw hk hn, if_pos (by omega)]
    simp [hj]
  · next e =>
    refine lane_ext (laneN_lt ..) (laneN_lt ..) fun j hj => ?_
    rw [tb_lane hw hk, tb_lane hw hk, bv_with hw hi hn, if_neg]
    rcases hw with rfl | rfl | rfl | rfl <;> omega
end Go.Proofs.YtpeckiaimellmaaDoor.Lan
/-
  The small functions of lanes: most, lane, patch, with, fit, isWidth, isLane.
-/
set_option linter.unusedVariables false
set_option linter.unusedSimpArgs false
namespace Go.Proofs.YtpeckiaimellmaaDoor
open Go.RowKit Lan

theorem below_drewNq {B : Nat} {a w : World} (h : Below B a w) (q : Nat) : Below B a (w.drewN q) := h.trans ⟨rfl, rfl, rfl, Nat.le_refl _, fun _ _ => rfl⟩

/-- A vector, as it is held. -/
def vecV (v : Nat × Nat) : Value := .agg #[.int .u64 (v.1 : Int), .int .u64 (v.2 : Int)]

set_option maxHeartbeats 400000 in
theorem lmost_calls {w : Nat} (hw : IsW w) (W : World) :
    Calls Tryd.prog 101 #[.int .i64 (w : Int)] W fun e W' => e = .returned (.int .u64 (mo w)) ∧ W' = W := by
  rcases hw with rfl | rfl | rfl | rfl <;>
  · go_enter Tryd.func101, Tryd.ntmps101
    go_wp2
    go_ret
    exact ⟨rfl, rfl⟩

theorem mo_nat (w : Nat) : mo w = ((2 ^ w - 1 : Nat) : Int) := by
  unfold mo
  have := Nat.two_pow_pos w
  rw [Int.natCast_sub (by omega)]; simp

theorem and_mo {w : Nat} (hw : IsW w) (n : Nat) (h1 : n < 18446744073709551616) : bits .and .u64 (n : Int) (mo w) = ((n % 2 ^ w : Nat) : Int) := by
  have hp : 2 ^ w ≤ 2 ^ 64 := Nat.pow_le_pow_right (by decide) hw.le
  have hq := Nat.two_pow_pos w
  rw [mo_nat, bits_and_u64_nat n _ h1 (by omega), Nat.and_two_pow_sub_one_eq_mod]

theorem shr_and {w a x : Nat} (hw : IsW w) (hx : x < 2 ^ 64) : bits .and .u64 ((x : Int) / 2 ^ a) (mo w) = ((x / 2 ^ a % 2 ^ w : Nat) : Int) := by
  have e : (x : Int) / 2 ^ a = ((x / 2 ^ a : Nat) : Int) := by simp
  rw [e, and_mo hw]
  exact Nat.lt_of_le_of_lt (Nat.div_le_self _ _) hx

/-- One word as 'patch' makes it. -/
theorem patch_bits {x w a n : Nat} (hw : IsW w) (hx : x < 2 ^ 64) (hn : n < 2 ^ w) (h : a + w ≤ 64) :
    bits .or .u64 (bits .andNot .u64 (x : Int) (IntKind.u64.wrap (mo w * 2 ^ a))) (IntKind.u64.wrap ((n : Int) * 2 ^ a)) = (patchN x w a n : Int) := by
  have hp : 2 ^ (a + w) ≤ 2 ^ 64 := Nat.pow_le_pow_right (by decide) h
  have hq := Nat.two_pow_pos w
  have ha := Nat.two_pow_pos a
  rw [Nat.pow_add] at hp
  have h1 : (2 ^ w - 1) * 2 ^ a < 2 ^ 64 := by
    have : (2 ^ w - 1) * 2 ^ a < 2 ^ w * 2 ^ a := Nat.mul_lt_mul_of_pos_right (by omega) ha
    rw [Nat.mul_comm (2 ^ w)] at this
    exact Nat.lt_of_lt_of_le this hp
  have h2 : n * 2 ^ a < 2 ^ 64 := by
    have : n * 2 ^ a < 2 ^ w * 2 ^ a := Nat.mul_lt_mul_of_pos_right hn ha
    rw [Nat.mul_comm (2 ^ w)] at this
    exact Nat.lt_of_lt_of_le this hp
  have e1 : IntKind.u64.wrap (mo w * 2 ^ a) = (((2 ^ w - 1) * 2 ^ a : Nat) : Int) := by
    rw [mo_nat, IntKind.wrap_u64]
    have : ((2 ^ w - 1 : Nat) : Int) * 2 ^ a = (((2 ^ w - 1) * 2 ^ a : Nat) : Int) := by push_cast; rfl
    rw [this]
    exact Int.emod_eq_of_lt (Int.natCast_nonneg _) (by generalize (2 ^ w - 1) * 2 ^ a = z at h1 ⊢; omega)
  have e2 : IntKind.u64.wrap ((n : Int) * 2 ^ a) = ((n * 2 ^ a : Nat) : Int) := by
    rw [IntKind.wrap_u64]
    have : (n : Int) * 2 ^ a = ((n * 2 ^ a : Nat) : Int) := by push_cast; rfl
    rw [this]
    exact Int.emod_eq_of_lt (Int.natCast_nonneg _) (by generalize n * 2 ^ a = z at h2 ⊢; omega)
  rw [e1, e2, u64_andNot_nat x _ hx h1, bits_or_u64_nat _ _ (Nat.lt_of_le_of_lt Nat.and_le_left hx) h2]
  congr 1
  apply word_ext
  · exact Nat.or_lt_two_pow (Nat.lt_of_le_of_lt Nat.and_le_left hx) h2
  · exact patch_lt hx hn h
  · intro k hk
    rw [tb_patch hn, Nat.testBit_or, Nat.testBit_and, Nat.testBit_mul_two_pow]
    have e3 : (18446744073709551615 - (2 ^ w - 1) * 2 ^ a).testBit k = !((2 ^ w - 1) * 2 ^ a).testBit k := by
      have := Nat.testBit_two_pow_sub_succ h1 k
      rw [show (18446744073709551615 : Nat) - (2 ^ w - 1) * 2 ^ a = 2 ^ 64 - ((2 ^ w - 1) * 2 ^ a + 1) by omega, this]
      simp [hk]
    rw [e3, Nat.testBit_mul_two_pow, Nat.testBit_two_pow_sub_one]
    by_cases c : a ≤ k
    · by_cases d : k < a + w
      · simp [c, d, show k - a < w by omega]
      · rw [tb_high hn (show w ≤ k - a by omega)]; simp [c, d, show ¬ k - a < w by omega]
    · simp [c]

set_option maxHeartbeats 400000 in
theorem patch_calls {x w a n : Nat} (hw : IsW w) (hx : x < 2 ^ 64) (hn : n < 2 ^ w) (h : a + w ≤ 64) (W : World) :
    Calls Tryd.prog 116 #[.int .u64 (x : Int), .int .i64 (w : Int), .int .i64 (a : Int), .int .u64 (n : Int)] W fun e W' => e = .returned (.int .u64 (patchN x w a n : Int)) ∧ ∃ m, W' = W.drewN m := by
  have C := hide (lmost_calls hw)
  have E := patch_bits hw hx hn h
  have c2 : ((a : Int)) < 64 := by have := hw.pos; omega
  clear hx hn h
  go_enter Tryd.func116, Tryd.ntmps116
  go_wp2_with fail
  go_quiet (with_reducible refine Calls.quiet_of_same (C.out _))
  go_wp2
  go_ret
  exact ⟨rfl, _, rfl⟩


set_option maxHeartbeats 400000 in
theorem lane_calls {w i : Nat} (hw : IsW w) (hi : i < 128 / w) (v : Nat × Nat) (hv : Vok v) (W : World) :
    Calls Tryd.prog 52 #[vecV v, .int .i64 (w : Int), .int .i64 (i : Int)] W fun e W' => e = .returned (.int .u64 (laneN v w i : Int)) ∧ Below W.heap.size W W' := by
  have C := hide (lmost_calls hw)
  have h128 := (in_word hw hi).1
  have M : wrap64 ((i : Int) * (w : Int)) = ((i * w : Nat) : Int) := by
    have e : (i : Int) * (w : Int) = ((i * w : Nat) : Int) := by simp
    rw [e]
    unfold wrap64
    omega
  have E1 := @shr_and w (i * w) v.1 hw hv.1
  have E2 := @shr_and w (i * w - 64) v.2 hw hv.2
  unfold vecV laneN
  obtain ⟨lo, hi⟩ := v
  simp only at E1 E2 ⊢
  generalize i * w = q at *
  by_cases c : q < 64
  · rw [if_pos c]
    have c1 : ((q : Int) < 64) := by omega
    have c0 : (0 ≤ (q : Int)) := by omega
    clear hv h128 c E2
    go_enter Tryd.func52, Tryd.ntmps52
    go_wp2_with fail
    go_quiet (with_reducible refine Calls.quiet_of_same (C.out _))
    go_wp2
    go_ret
    exact ⟨congrArg (fun z => Ending.returned (.int .u64 z)) (by push_cast; rfl), below_drewNq ((Below.refl _ _).alloc (Nat.le_refl _) _) _⟩
  · rw [if_neg c]
    obtain ⟨r, hr⟩ : ∃ r, q - 64 = r := ⟨_, rfl⟩
    have c1 : ¬ ((q : Int) < 64) := by omega
    have M2 : wrap64 ((q : Int) - 64) = (r : Int) := by unfold wrap64; omega
    have c2 : (0 ≤ (r : Int)) := by omega
    have c3 : (r : Int) < 64 := by have := hw.pos; omega
    rw [hr] at E2 ⊢
    clear hr
    clear hv h128 c E1
    go_enter Tryd.func52, Tryd.ntmps52
    go_wp2_with fail
    go_quiet (with_reducible refine Calls.quiet_of_same (C.out _))
    go_wp2
    go_ret
    exact ⟨congrArg (fun z => Ending.returned (.int .u64 z)) (by push_cast; rfl), below_drewNq ((Below.refl _ _).alloc (Nat.le_refl _) _) _⟩

set_option maxHeartbeats 400000 in
theorem with_calls {w i n : Nat} (hw : IsW w) (hi : i < 128 / w) (hn : n < 2 ^ w) (v : Nat × Nat) (hv : Vok v) (W : World) :
    Calls Tryd.prog 76 #[vecV v, .int .i64 (w : Int), .int .i64 (i : Int), .int .u64 (n : Int)] W fun e W' => e = .returned (vecV (withN v w i n)) ∧ Below W.heap.size W W' := by
  have h128 := in_word hw hi
  have M : wrap64 ((i : Int) * (w : Int)) = ((i * w : Nat) : Int) := by
    have e : (i : Int) * (w : Int) = ((i * w : Nat) : Int) := by simp
    rw [e]
    unfold wrap64
    omega
  unfold vecV withN
  obtain ⟨lo, hi⟩ := v
  simp only at hv ⊢
  obtain ⟨hv1, hv2⟩ := hv
  generalize i * w = q at *
  by_cases c : q < 64
  · rw [if_pos c]
    have C := hide (@patch_calls lo w q n hw hv1 hn (h128.2 c))
    have c1 : ((q : Int) < 64) := by omega
    clear hv1 hv2 h128 c hn
    generalize patchN lo w q n = p at *
    go_enter Tryd.func76, Tryd.ntmps76
    go_wp2_with ((with_reducible refine (C.out _).mono ?_); rintro e w1 ⟨rfl, m, rfl⟩)
    refine bodyPost_ret (v := .agg #[.int .u64 (p : Int), .int .u64 (hi : Int)]) (by simp [results, Tryd.results76, go_sem]) rfl ?_
    exact ⟨rfl, (((below_drewNq (((Below.refl _ _).alloc (Nat.le_refl _) _).alloc (by simp) _) _).setCell (Nat.le_refl _) _).setCell (Nat.le_succ _) _).setCell (Nat.le_succ _) _⟩
  · rw [if_neg c]
    obtain ⟨r, hr⟩ : ∃ r, q - 64 = r := ⟨_, rfl⟩
    have C := hide (@patch_calls hi w r n hw hv2 hn (by omega))
    have c1 : ¬ ((q : Int) < 64) := by omega
    have M2 : wrap64 ((q : Int) - 64) = (r : Int) := by unfold wrap64; omega
    rw [hr]
    clear hv1 hv2 h128 c hn hr
    generalize patchN hi w r n = p at *
    go_enter Tryd.func76, Tryd.ntmps76
    go_wp2_with ((with_reducible refine (C.out _).mono ?_); rintro e w1 ⟨rfl, m, rfl⟩)
    refine bodyPost_ret (v := .agg #[.int .u64 (lo : Int), .int .u64 (p : Int)]) (by simp [results, Tryd.results76, go_sem]) rfl ?_
    exact ⟨rfl, (((below_drewNq (((Below.refl _ _).alloc (Nat.le_refl _) _).alloc (by simp) _) _).setCell (Nat.le_refl _) _).setCell (Nat.le_succ _) _).setCell (Nat.le_succ _) _⟩

set_option maxHeartbeats 400000 in
theorem lfit_calls (w : Int) (n : Int) (W : World) (hT : WTabs W) :
    Calls Tryd.prog 75 #[.int .i64 w, .int .u64 n] W fun e W' => e = .returned (.bool (ok1 w n)) ∧ Below W.heap.size W W' := by
  have C := hide (ext_calls w n W hT)
  clear hT
  cases h : ok1 w n with
  | false =>
    rw [h] at C
    simp only [pairV, Bool.false_eq_true, if_false] at C
    clear h
    go_enter Tryd.func75, Tryd.ntmps75
    go_wp2_with ((with_reducible refine C.out.mono ?_); rintro e w1 ⟨rfl, B⟩)
    go_ret
    exact ⟨rfl, B⟩
  | true =>
    rw [h] at C
    simp only [pairV, if_true] at C
    clear h
    go_enter Tryd.func75, Tryd.ntmps75
    go_wp2_with ((with_reducible refine C.out.mono ?_); rintro e w1 ⟨rfl, B⟩)
    go_ret
    exact ⟨rfl, B⟩

theorem ok1_zero (w : Int) : ok1 w 0 = isW w := by
  unfold ok1
  cases h : isW w with
  | false => rfl
  | true =>
    obtain ⟨n, rfl, hn⟩ := (isW_iff w).1 h
    rcases hn with rfl | rfl | rfl | rfl <;> rfl

set_option maxHeartbeats 400000 in
theorem lisWidth_calls (w : Int) (W : World) (hT : WTabs W) :
    Calls Tryd.prog 100 #[.int .i64 w] W fun e W' => e = .returned (.bool (isW w)) ∧ Below W.heap.size W W' := by
  have C := lfit_calls w 0 W hT
  rw [ok1_zero] at C
  have C := hide C
  clear hT
  go_enter Tryd.func100, Tryd.ntmps100
  go_wp2_with ((with_reducible refine C.out.mono ?_); rintro e w1 ⟨rfl, B⟩)
  go_ret
  exact ⟨rfl, B⟩

/-- A width, and a lane of it. -/
def isL (w i : Int) : Bool := isW w && (decide (0 ≤ i) && decide (i < 128 / w))

set_option maxHeartbeats 400000 in
theorem isLane_calls (w i : Int) (W : World) (hT : WTabs W) :
    Calls Tryd.prog 51 #[.int .i64 w, .int .i64 i] W fun e W' => e = .returned (.bool (isL w i)) ∧ Below W.heap.size W W' := by
  have C := lisWidth_calls w W hT
  unfold isL
  cases h : isW w with
  | false =>
    rw [h] at C
    have C := hide C
    clear hT h
    go_enter Tryd.func51, Tryd.ntmps51
    go_wp2_with ((with_reducible refine C.out.mono ?_); rintro e w1 ⟨rfl, B⟩)
    go_ret
    exact ⟨rfl, B⟩
  | true =>
    rw [h] at C
    have C := hide C
    obtain ⟨n, rfl, hn⟩ := (isW_iff w).1 h
    clear hT h
    rcases hn with rfl | rfl | rfl | rfl
    all_goals
      simp only [show ((8 : Nat) : Int) = 8 from rfl, show ((16 : Nat) : Int) = 16 from rfl, show ((32 : Nat) : Int) = 32 from rfl, show ((64 : Nat) : Int) = 64 from rfl] at C ⊢
      by_cases c : 0 ≤ i
      · go_enter Tryd.func51, Tryd.ntmps51
        go_wp2_with ((with_reducible refine C.out.mono ?_); rintro e w1 ⟨rfl, B⟩)
        go_ret
        exact ⟨by simp [c], B⟩
      · have c' : decide (0 ≤ i) = false := by simp; omega
        go_enter Tryd.func51, Tryd.ntmps51
        go_wp2_with ((with_reducible refine C.out.mono ?_); rintro e w1 ⟨rfl, B⟩)
        go_ret
        exact ⟨by simp [c]; intro; omega, B⟩
end Go.Proofs.YtpeckiaimellmaaDoor
/-
  lanes.Bytes, lanes.OfBytes.
-/
set_option linter.unusedVariables false
set_option linter.unusedSimpArgs false
namespace Go.Proofs.YtpeckiaimellmaaDoor
open Go.RowKit Lan

/-- The cells of a row of bytes. -/
def cellsB (L : List Nat) : Array Value := (L.map fun n : Nat => Value.int .u8 (n : Int)).toArray
/-- Sixteen bytes, as they are held. -/
def arrV (L : List Nat) : Value := .agg (cellsB L)
def Blk (w : World) (g : Nat) (L : List Nat) : Prop := w.heap[g]? = some (.cells (cellsB L) 70 (0, 0))
def VBlk (w : World) (g : Nat) (v : Nat × Nat) : Prop := w.heap[g]? = some (.cells #[.int .u64 (v.1 : Int), .int .u64 (v.2 : Int)] 25 (0, 0))

/-- The first k of sixteen filled in. -/
def fillTo (f : Nat → Nat) (k : Nat) : List Nat := (List.range 16).map fun j => if j < k then f j else 0
theorem fill_length (f : Nat → Nat) (k : Nat) : (fillTo f k).length = 16 := by simp [fillTo]
theorem fill_set (f : Nat → Nat) (k : Nat) (hk : k < 16) : (fillTo f k).set k (f k) = fillTo f (k + 1) := by
  apply List.ext_getElem
  · simp [fillTo]
  · intro j h1 h2
    simp only [fillTo, List.getElem_set, List.getElem_map, List.getElem_range]
    by_cases e : k = j
    · subst e; simp
    · by_cases c : j < k
      · simp [e, c, show j < k + 1 by omega]
      · simp [e, c, show ¬ j < k + 1 by omega]
theorem fill_all (f : Nat → Nat) : fillTo f 16 = (List.range 16).map f := by
  apply List.map_congr_left
  intro j hj
  simp at hj
  simp [hj]

theorem cellsB_size (L : List Nat) : (cellsB L).size = L.length := by simp [cellsB]
theorem cellsB_set (L : List Nat) (k n : Nat) : (cellsB L).setIfInBounds k (.int .u8 (n : Int)) = cellsB (L.set k n) := by
  apply Array.ext'
  simp [cellsB, List.map_set]
theorem cellsB_get (L : List Nat) (k : Nat) (hk : k < L.length) : (cellsB L)[k]? = some (.int .u8 (at0 L k : Int)) := by
  simp [cellsB, at0, List.getElem?_eq_getElem hk]
theorem cellsB_one (L : List Nat) : (cellsB L).all (·.oneCell') = true := by
  rw [Array.all_eq_true_iff_forall_mem]
  intro v hv
  simp [cellsB] at hv
  obtain ⟨n, _, rfl⟩ := hv
  rfl

theorem Blk.cell {w : World} {g : Nat} {L : List Nat} (h : Blk w g L) (k : Nat) (hk : k < L.length) : w.cell? ⟨g, k, none⟩ = some (.int .u8 (at0 L k : Int)) := by
  unfold Blk at h
  simp [World.cell?, h, cellsB_get L k hk]
theorem Blk.frozen {w : World} {g : Nat} {L : List Nat} (h : Blk w g L) (k : Nat) : w.frozen? ⟨g, k, none⟩ = false := frozen_of_row w g k _ _ h
theorem Blk.lt {w : World} {g : Nat} {L : List Nat} (h : Blk w g L) : g < w.heap.size := (Array.getElem?_eq_some_iff.1 h).1
theorem Blk.later {w w' : World} {g : Nat} {L : List Nat} (h : Blk w g L) {B : Nat} (hb : Below B w w') (hg : g < B) : Blk w' g L := (hb.block g hg).trans h
theorem Blk.set {w : World} {g : Nat} {L : List Nat} (h : Blk w g L) (k n : Nat) : Blk (w.setCell ⟨g, k, none⟩ (.int .u8 (n : Int))) g (L.set k n) := by
  unfold Blk
  rw [heap_setCell_same w g k _ _ _ h, cellsB_set]
theorem VBlk.later {w w' : World} {g : Nat} {v : Nat × Nat} (h : VBlk w g v) {B : Nat} (hb : Below B w w') (hg : g < B) : VBlk w' g v := (hb.block g hg).trans h
theorem VBlk.lt {w : World} {g : Nat} {v : Nat × Nat} (h : VBlk w g v) : g < w.heap.size := (Array.getElem?_eq_some_iff.1 h).1
theorem VBlk.c0 {w : World} {g : Nat} {v : Nat × Nat} (h : VBlk w g v) : w.cell? ⟨g, 0, none⟩ = some (.int .u64 (v.1 : Int)) := by
  unfold VBlk at h; simp [World.cell?, h]
theorem VBlk.c1 {w : World} {g : Nat} {v : Nat × Nat} (h : VBlk w g v) : w.cell? ⟨g, 1, none⟩ = some (.int .u64 (v.2 : Int)) := by
  unfold VBlk at h; simp [World.cell?, h]
theorem VBlk.frozen {w : World} {g : Nat} {v : Nat × Nat} (h : VBlk w g v) (k : Nat) : w.frozen? ⟨g, k, none⟩ = false := frozen_of_row w g k _ _ h

theorem under16 : Tryd.prog.underlying 70 = some (.array 16 5) := by kernel_rfl
theorem info16 : (Tryd.prog.info? 70).map (·.size) = some 16 := by kernel_rfl
theorem info16' {L : List Nat} (h : L.length = 16) : (Tryd.prog.info? 70).map (·.size) = some (cellsB L).size := by rw [cellsB_size, h]; exact info16

theorem w8_wrap {n : Nat} (h : n < 2 ^ 8) : IntKind.u8.wrap (n : Int) = (n : Int) := by
  rw [IntKind.wrap_u8]; omega

theorem alloc_at {w : World} {o : Obj} {g : Nat} (hg : g = w.heap.size) : (w.alloc o).heap[g]? = some o := by subst hg; exact heap_alloc_new w o
theorem alloc_past {w : World} {o x : Obj} {g : Nat} (h : w.heap[g]? = some x) : (w.alloc o).heap[g]? = some x := by
  rw [Below.heap_alloc _ _ _ (Array.getElem?_eq_some_iff.1 h).1]; exact h

theorem below_setRow {B : Nat} {a w : World} (h : Below B a w) {g : Nat} (hg : B ≤ g) (cs : Array Value) : Below B a (w.setRow g cs) :=
  h.trans ⟨rfl, rfl, rfl, by simp, fun k hk => by
    simp only [World.setRow, Array.getElem?_modify]
    rw [if_neg (by omega)]⟩

def zero16 : List Nat := List.replicate 16 0
theorem zero16_cells : #[Value.int .u8 0, .int .u8 0, .int .u8 0, .int .u8 0, .int .u8 0, .int .u8 0, .int .u8 0, .int .u8 0, .int .u8 0, .int .u8 0, .int .u8 0, .int .u8 0, .int .u8 0, .int .u8 0, .int .u8 0, .int .u8 0] = cellsB zero16 := rfl
theorem zero16_fill (f : Nat → Nat) : zero16 = fillTo f 0 := rfl

def BytesAt (v : Nat × Nat) (f : Nat → Nat) (W : World) (k : Nat) (wr : World) : Prop :=
  VBlk wr W.heap.size v ∧ Blk wr (W.heap.size + 1) zero16 ∧ Blk wr (W.heap.size + 2) (fillTo f k) ∧ Below W.heap.size W wr

end Go.Proofs.YtpeckiaimellmaaDoor
/-
  lanes.OfBytes, Get, Set, Splat.
-/
set_option linter.unusedVariables false
set_option linter.unusedSimpArgs false
namespace Go.Proofs.YtpeckiaimellmaaDoor
open Go.RowKit Lan

theorem list16 {L : List Nat} (h : L.length = 16) : ∃ x0 x1 x2 x3 x4 x5 x6 x7 x8 x9 x10 x11 x12 x13 x14 x15, L = [x0, x1, x2, x3, x4, x5, x6, x7, x8, x9, x10, x11, x12, x13, x14, x15] := by
  match L, h with
  | [x0, x1, x2, x3, x4, x5, x6, x7, x8, x9, x10, x11, x12, x13, x14, x15], _ => exact ⟨x0, x1, x2, x3, x4, x5, x6, x7, x8, x9, x10, x11, x12, x13, x14, x15, rfl⟩

theorem index16 {L : List Nat} (hL : L.length = 16) (k : Nat) (hk : k < 16) (w : World) :
    (Instr.index 70 (.agg (cellsB L)) (.int .i64 (k : Int))).run Tryd.prog w = .ok (.int .u8 (at0 L k : Int)) w := by
  obtain ⟨x0, x1, x2, x3, x4, x5, x6, x7, x8, x9, x10, x11, x12, x13, x14, x15, rfl⟩ := list16 hL
  rcases (show k = 0 ∨ k = 1 ∨ k = 2 ∨ k = 3 ∨ k = 4 ∨ k = 5 ∨ k = 6 ∨ k = 7 ∨ k = 8 ∨ k = 9 ∨ k = 10 ∨ k = 11 ∨ k = 12 ∨ k = 13 ∨ k = 14 ∨ k = 15 by omega) with rfl | rfl | rfl | rfl | rfl | rfl | rfl | rfl | rfl | rfl | rfl | rfl | rfl | rfl | rfl | rfl <;> kernel_rfl

theorem VBlk.set2 {w : World} {g : Nat} {v : Nat × Nat} (h : VBlk w g v) (p q : Nat) :
    VBlk ((w.setCell ⟨g, 0, none⟩ (.int .u64 (p : Int))).setCell ⟨g, 1, none⟩ (.int .u64 (q : Int))) g (p, q) := by
  unfold VBlk
  have h1 := heap_setCell_same w g 0 _ _ (.int .u64 (p : Int)) h
  rw [heap_setCell_same _ g 1 _ _ _ h1]
  rfl
theorem VBlk.other {w : World} {g g' : Nat} {v : Nat × Nat} (h : VBlk w g v) (hg : g ≠ g') (j : Nat) (x : Value) : VBlk (w.setCell ⟨g', j, none⟩ x) g v :=
  (heap_setCell_other _ _ _ _ hg).trans h
theorem Blk.other {w : World} {g g' : Nat} {L : List Nat} (h : Blk w g L) (hg : g ≠ g') (j : Nat) (x : Value) : Blk (w.setCell ⟨g', j, none⟩ x) g L :=
  (heap_setCell_other _ _ _ _ hg).trans h

theorem infoV : (Tryd.prog.info? 25).map (·.size) = some 2 := by kernel_rfl

theorem VBlk.result {w : World} {g : Nat} {v : Nat × Nat} (h : VBlk w g v) {fn : Func} {p : Tmp} (hf : fn.results = #[.cell p 25]) (tmps : Array Value) (hp : tmps.getD p undef = .pointer (some ⟨g, 0, none⟩)) :
    (results fn tmps).run Tryd.prog w = .ok (vecV v) w := by
  exact results_cell_row hf tmps w g _ _ _ _ hp h Tryd.underlying25 rfl infoV

def OfAt (L : List Nat) (W : World) (k : Nat) (wr : World) : Prop :=
  VBlk wr (W.heap.size + 1) (0, 0) ∧ VBlk wr (W.heap.size + 2) (vecTo 8 L k) ∧ Below W.heap.size W wr

end Go.Proofs.YtpeckiaimellmaaDoor
/-
  lanes.Get, Set, Splat.
-/
set_option linter.unusedVariables false
set_option linter.unusedSimpArgs false
namespace Go.Proofs.YtpeckiaimellmaaDoor
open Go.RowKit Lan

theorem isL_true {w i : Int} (h : isL w i = true) : ∃ n m : Nat, w = n ∧ i = m ∧ IsW n ∧ m < 128 / n := by
  unfold isL at h
  simp only [Bool.and_eq_true, decide_eq_true_eq] at h
  obtain ⟨h1, h2, h3⟩ := h
  obtain ⟨n, rfl, hn⟩ := (isW_iff w).1 h1
  obtain ⟨m, rfl⟩ := Int.eq_ofNat_of_zero_le h2
  refine ⟨n, m, rfl, rfl, hn, ?_⟩
  rcases hn with rfl | rfl | rfl | rfl <;> omega

theorem isL_of {n m : Nat} (hn : IsW n) (hm : m < 128 / n) : isL n m = true := by
  unfold isL
  rw [(isW_iff n).2 ⟨n, rfl, hn⟩]
  rcases hn with rfl | rfl | rfl | rfl <;> simp <;> omega

/-- What Get answers, and the error's number. -/
def getV (v : Nat × Nat) (w i : Int) : Int × Int := if isL w i then ((laneN v w.toNat i.toNat : Int), 0) else (0, 2)
/-- What Set answers. -/
def setV (v : Nat × Nat) (w i : Int) (n : Nat) : (Nat × Nat) × Int := if isL w i && ok1 w n then (withN v w.toNat i.toNat n, 0) else ((0, 0), 2)
def vecE (p : (Nat × Nat) × Int) : Value := .tuple #[vecV p.1, .int .i64 p.2]

theorem VBlk.result2 {w : World} {g : Nat} {v : Nat × Nat} (h : VBlk w g v) {fn : Func} {p q : Tmp} (hf : fn.results = #[.cell p 25, .tmp q]) (tmps : Array Value) (hp : tmps.getD p undef = .pointer (some ⟨g, 0, none⟩)) {x : Value} (hq : tmps.getD q undef = x) :
    (results fn tmps).run Tryd.prog w = .ok (.tuple #[vecV v, x]) w := by
  have hp' : tmps[p]?.getD undef = .pointer (some ⟨g, 0, none⟩) := by simpa using hp
  have hq' : tmps[q]?.getD undef = x := by simpa using hq
  simp [results, hf, hp', hq', asAddr, run_loadVar_row w g _ _ _ _ _ h Tryd.underlying25 rfl infoV]
  rfl

set_option maxHeartbeats 1000000 in
theorem lget_calls (v : Nat × Nat) (hv : Vok v) (w i : Int) (W : World) (hT : WTabs W) :
    Calls Tryd.prog 24 #[vecV v, .int .i64 w, .int .i64 i] W fun e W' => e = .returned (pairV (getV v w i)) ∧ Below W.heap.size W W' := by
  have BB : Below W.heap.size W (W.alloc (.cells #[.int .u64 (v.1 : Int), .int .u64 (v.2 : Int)] 25)) := below_two _ _
  have C := isLane_calls w i _ (hT.later BB)
  have HB := hide BB
  have VB : Hide (VBlk (W.alloc (.cells #[.int .u64 (v.1 : Int), .int .u64 (v.2 : Int)] 25)) W.heap.size v) := hide (alloc_at rfl)
  clear BB
  unfold getV
  cases h : isL w i with
  | false =>
    rw [h] at C
    have C := hide C
    simp only [Bool.false_eq_true, if_false]
    unfold vecV
    clear h hT hv VB
    go_enter Tryd.func24, Tryd.ntmps24
    go_wp2_with fail
    refine C.out.mono ?_
    rintro e w1 ⟨rfl, hb⟩
    have BN := hide (HB.out.trans (hb.mono HB.out.size))
    clear hb HB
    go_wp2
    refine bodyPost_ret (v := .tuple #[.int .u64 0, .int .i64 2]) (by simp [results, Tryd.results24, go_sem]) rfl ?_
    exact ⟨rfl, BN.out⟩
  | true =>
    obtain ⟨n, m, rfl, rfl, hn, hm⟩ := isL_true h
    rw [h] at C
    have C := hide C
    have D := hide (lane_calls hn hm v hv)
    simp only [if_true, Int.toNat_natCast]
    unfold vecV at D ⊢
    clear h hT hv hn hm
    go_enter Tryd.func24, Tryd.ntmps24
    go_wp2_with fail
    refine C.out.mono ?_
    rintro e w1 ⟨rfl, hb⟩
    have BN := hide (HB.out.trans (hb.mono HB.out.size))
    have V1 : VBlk w1 W.heap.size v := VB.out.later hb VB.out.lt
    have h0 := V1.c0
    have h1 := V1.c1
    clear hb HB V1 VB
    go_wp2_with fail
    refine (D.out _).mono ?_
    rintro e w2 ⟨rfl, hb⟩
    have BN2 := hide (BN.out.trans (hb.mono BN.out.size))
    clear hb h0 h1
    go_wp2
    refine bodyPost_ret (v := .tuple #[.int .u64 (laneN v n m : Int), .int .i64 0]) (by simp [results, Tryd.results24, go_sem]) rfl ?_
    exact ⟨rfl, BN2.out⟩

end Go.Proofs.YtpeckiaimellmaaDoor
/-
  lanes.Splat.
-/
set_option linter.unusedVariables false
set_option linter.unusedSimpArgs false
namespace Go.Proofs.YtpeckiaimellmaaDoor
open Go.RowKit Lan

theorem vecTo_ok2 {w : Nat} {l : List Nat} (hw : IsW w) : ∀ m, m ≤ 128 / w → (∀ j, j < m → at0 l j < 2 ^ w) → Vok (vecTo w l m)
  | 0, _, _ => ⟨Nat.two_pow_pos 64, Nat.two_pow_pos 64⟩
  | m + 1, h, hl => with_ok hw (by omega) (hl m (by omega)) (vecTo_ok2 hw m (by omega) (fun j hj => hl j (by omega)))

def splatV (w : Int) (n : Nat) : (Nat × Nat) × Int := if ok1 w n then (vecN w.toNat (List.replicate (128 / w.toNat) n), 0) else ((0, 0), 2)

theorem at_rep (c n k : Nat) (hk : k < c) : at0 (List.replicate c n) k = n := by simp [at0, List.getElem?_replicate, hk]

theorem ok1_lt {w n : Nat} (h : ok1 (w : Int) (n : Int) = true) : n < 2 ^ w := by
  obtain ⟨n', e', _, h2⟩ := of_ok1 (by omega) h
  obtain rfl : w = n' := by omega
  have := h2.2
  exact_mod_cast this

def VAt (g0 g1 : Nat) (W : World) (v : Nat × Nat) (wr : World) : Prop :=
  VBlk wr g0 (0, 0) ∧ VBlk wr g1 v ∧ Below W.heap.size W wr

set_option maxHeartbeats 1000000 in
theorem lsplat_bad (w : Int) (n : Nat) (h : ok1 w n = false) (W : World) (hT : WTabs W) :
    Calls Tryd.prog 33 #[.int .i64 w, .int .u64 (n : Int)] W fun e W' => e = .returned (vecE ((0, 0), 2)) ∧ Below W.heap.size W W' := by
  have BB : Below W.heap.size W (W.alloc (.cells #[.int .u64 0, .int .u64 0] 25)) := below_two _ _
  have F := lfit_calls w n _ (hT.later BB)
  have RB : Hide (VBlk (W.alloc (.cells #[.int .u64 0, .int .u64 0] 25)) W.heap.size (0, 0)) := hide (alloc_at rfl)
  have HB := hide BB
  rw [h] at F
  have F := hide F
  clear BB hT h
  unfold vecE vecV
  go_enter Tryd.func33, Tryd.ntmps33
  go_wp2_with fail
  refine F.out.mono ?_
  rintro e w1 ⟨rfl, hb⟩
  have BN := hide (HB.out.trans (hb.mono HB.out.size))
  have R1 := hide (RB.out.later hb RB.out.lt)
  have g0 := R1.out.c0
  have g1 := R1.out.c1
  have z0 := R1.out.frozen 0
  have z1 := R1.out.frozen 1
  clear hb HB
  go_wp2
  refine bodyPost_ret (v := vecE ((0, 0), 2)) ((R1.out.set2 0 0).result2 (by rfl) _ rfl rfl) rfl ?_
  exact ⟨rfl, (BN.out.setCell (by simp) _).setCell (by simp) _⟩

set_option maxHeartbeats 1000000 in
theorem lsplat_ok {w c : Nat} (hw : IsW w) (hc : 128 / w = c) (hq : (128 : Int).tdiv (w : Int) = (c : Int)) (n : Nat) (h : ok1 (w : Int) (n : Int) = true) (W : World) (hT : WTabs W) :
    Calls Tryd.prog 33 #[.int .i64 (w : Int), .int .u64 (n : Int)] W fun e W' => e = .returned (vecE (vecN w (List.replicate c n), 0)) ∧ Below W.heap.size W W' := by
  have BB : Below W.heap.size W (W.alloc (.cells #[.int .u64 0, .int .u64 0] 25)) := below_two _ _
  have F := lfit_calls w n _ (hT.later BB)
  have RB : Hide (VBlk (W.alloc (.cells #[.int .u64 0, .int .u64 0] 25)) W.heap.size (0, 0)) := hide (alloc_at rfl)
  have HB := hide BB
  rw [h] at F
  have F := hide F
  have hlt := ok1_lt h
  obtain ⟨l, hl⟩ : ∃ l, List.replicate c n = l := ⟨_, rfl⟩
  have hat : ∀ k, k < c → at0 l k = n := fun k hk => by rw [← hl]; exact at_rep c n k hk
  have CW : Hide (∀ (k : Nat), k < c → ∀ W', Calls Tryd.prog 76 #[vecV (vecTo w l k), .int .i64 (w : Int), .int .i64 (k : Int), .int .u64 (n : Int)] W' fun e W'' => e = .returned (vecV (vecTo w l (k + 1))) ∧ Below W'.heap.size W' W'') := hide (fun k hk W' => by
    have := with_calls hw (i := k) (n := n) (by omega) hlt (vecTo w l k) (vecTo_ok2 hw k (by omega) (fun j hj => by rw [hat j (by omega)]; exact hlt)) W'
    have e : withN (vecTo w l k) w k n = vecTo w l (k + 1) := by rw [vecTo, hat k hk]
    rwa [e] at this)
  have hw0 : ((w : Int) == 0) = false := by have := hw.pos; simp; omega
  have hw1 : (w : Int) ≠ 0 := by have := hw.pos; omega
  have hc16 : c ≤ 16 := by rw [← hc]; rcases hw with rfl | rfl | rfl | rfl <;> decide
  have hwc : wrap64 (c : Int) = (c : Int) := by unfold wrap64; omega
  obtain ⟨⟨fp, fq⟩, hF⟩ : ∃ F, vecN w l = F := ⟨_, rfl⟩
  rw [hl, hF]
  have HF : Hide (vecTo w l c = (fp, fq)) := hide (by rw [← hF, ← hc]; rfl)
  clear BB hT h hlt hat hl hF hc hw
  unfold vecE vecV
  unfold vecV at CW
  go_enter Tryd.func33, Tryd.ntmps33
  go_wp2_with fail
  refine F.out.mono ?_
  rintro e w1 ⟨rfl, hb⟩
  have BN := hide (HB.out.trans (hb.mono HB.out.size))
  have R1 := hide (RB.out.later hb RB.out.lt)
  clear hb HB RB F
  go_wp2_with fail
  go_loopw [15] (fun x wr => ∃ k : Nat, x = .int .i64 (k : Int) ∧ k ≤ c ∧ VAt W.heap.size w1.heap.size W (vecTo w l k) wr) (fun x _ => c - (intOf x).toNat)
  case atStart =>
    exact ⟨0, rfl, by omega, alloc_past R1.out, alloc_at rfl, BN.out.alloc BN.out.size _⟩
  case round =>
    obtain ⟨k, rfl, hk, hr⟩ := hrel
    have hg : W.heap.size < w1.heap.size := R1.out.lt
    have HG := hide hg
    have HQ := hide hq
    clear hg hq
    by_cases c0 : k < c
    · have c1 : (k : Int) < (c : Int) := by omega
      have c2 : (k : Int) < 16 := by omega
      have CK := hide (CW.out k c0)
      have H := hide hr
      have h0 := hr.2.1.c0
      have h1 := hr.2.1.c1
      obtain ⟨⟨p, q⟩, hv'⟩ : ∃ v', vecTo w l (k + 1) = v' := ⟨_, rfl⟩
      have HV := hide hv'
      rw [hv'] at CK
      clear hr CW hv'
      generalize (vecTo w l k).1 = lo at *
      generalize (vecTo w l k).2 = hi at *
      simp only at CK
      go_wp2_with fail
      refine (CK.out _).mono ?_
      rintro e w2 ⟨rfl, hb⟩
      have K1 : Hide (VAt W.heap.size w1.heap.size W (vecTo w l k) w2) := by
        obtain ⟨a1, a2, a3⟩ := H.out
        exact hide ⟨a1.later hb a1.lt, a2.later hb a2.lt, a3.trans (hb.mono a3.size)⟩
      have hc0 := K1.out.2.1.c0
      have hc1 := K1.out.2.1.c1
      have hz0 := K1.out.2.1.frozen 0
      have hz1 := K1.out.2.1.frozen 1
      clear h0 h1 H hb
      go_wp2
      go_roundw
      case rel =>
        obtain ⟨a1, a2, a3⟩ := K1.out
        have hg := HG.out
        refine ⟨k + 1, by go_num, by omega, ?_, ?_, (a3.setCell (by simp; omega) _).setCell (by simp; omega) _⟩
        · exact (a1.other (by omega) _ _).other (by omega) _ _
        · rw [HV.out]; exact a2.set2 p q
      case measure => simp [intOf]; omega
    · obtain rfl : k = c := by omega
      have H := hide hr
      have hr2 := hr.2.1
      rw [HF.out] at hr2
      have h0 := hr2.c0
      have h1 := hr2.c1
      have g0 := hr.1.c0
      have g1 := hr.1.c1
      have z0 := hr.1.frozen 0
      have z1 := hr.1.frozen 1
      clear hr hr2 CW
      simp only at h0 h1
      go_wp2
      refine bodyPost_ret (v := vecE ((fp, fq), 0)) ((H.out.1.set2 fp fq).result2 (by rfl) _ rfl rfl) rfl ?_
      exact ⟨rfl, (H.out.2.2.setCell (by simp) _).setCell (by simp) _⟩

theorem q128 {w : Nat} (hw : IsW w) : (128 : Int).tdiv (w : Int) = ((128 / w : Nat) : Int) := by
  rcases hw with rfl | rfl | rfl | rfl <;> rfl

theorem lsplat_calls (w : Int) (n : Nat) (W : World) (hT : WTabs W) :
    Calls Tryd.prog 33 #[.int .i64 w, .int .u64 (n : Int)] W fun e W' => e = .returned (vecE (splatV w n)) ∧ Below W.heap.size W W' := by
  unfold splatV
  cases h : ok1 w n with
  | false => simpa using lsplat_bad w n h W hT
  | true =>
    obtain ⟨m, rfl, hm, _⟩ := of_ok1 (by omega) h
    simpa using lsplat_ok hm rfl (q128 hm) n h W hT
end Go.Proofs.YtpeckiaimellmaaDoor
/-
  lanes.Of, lanes.All.
-/
set_option linter.unusedVariables false
set_option linter.unusedSimpArgs false
namespace Go.Proofs.YtpeckiaimellmaaDoor
open Go.RowKit Lan

/-- What a walk is told of a slice of words. -/
def RowW (w : World) (a : Option Addr) (len : Nat) (l : List Nat) : Prop :=
  l.length = len ∧ len ≤ 2 ^ 63 - 1 ∧ (∀ i, at0 l i < 2 ^ 64) ∧
  (0 < len → ∃ b off, a = some ⟨b, off, none⟩ ∧ ∀ i, i < len → w.cell? ⟨b, off + i, none⟩ = some (.int .u64 (at0 l i : Int)))

theorem cell_later {B : Nat} {w w' : World} (h : Below B w w') {p : Addr} {v : Value} (hc : w.cell? p = some v) (hB : w.heap.size ≤ B) : w'.cell? p = some v := by
  have hl : p.block < w.heap.size := by
    rcases Nat.lt_or_ge p.block w.heap.size with h' | h'
    · exact h'
    · simp [World.cell?, Array.getElem?_eq_none h'] at hc
  exact (h.cell (Nat.lt_of_lt_of_le hl hB)).trans hc

theorem RowW.later {w w' : World} {a : Option Addr} {len : Nat} {l : List Nat} (h : RowW w a len l) (hb : Below w.heap.size w w') : RowW w' a len l := by
  obtain ⟨h1, h2, h3, h4⟩ := h
  refine ⟨h1, h2, h3, fun h0 => ?_⟩
  obtain ⟨b, off, e, hc⟩ := h4 h0
  exact ⟨b, off, e, fun i hi => cell_later hb (hc i hi) (Nat.le_refl _)⟩

def okAll (w : Int) (l : List Nat) : Bool := l.all fun n => ok1 w (n : Int)
def ofV (w : Int) (l : List Nat) : (Nat × Nat) × Int := if isW w && (l.length == 128 / w.toNat) && okAll w l then (vecN w.toNat l, 0) else ((0, 0), 2)

theorem okAll_false {w : Int} {l : List Nat} {k : Nat} (hk : k < l.length) (h : ok1 w (at0 l k : Int) = false) : okAll w l = false := by
  unfold okAll
  rw [List.all_eq_false]
  refine ⟨at0 l k, ?_, by simp [h]⟩
  simp [at0, List.getElem?_eq_getElem hk]
theorem okAll_true {w : Int} {l : List Nat} (h : ∀ k, k < l.length → ok1 w (at0 l k : Int) = true) : okAll w l = true := by
  unfold okAll
  rw [List.all_eq_true]
  intro x hx
  obtain ⟨k, hk, rfl⟩ := List.mem_iff_getElem.1 hx
  have := h k hk
  simpa [at0, List.getElem?_eq_getElem hk] using this

set_option maxHeartbeats 1000000 in
theorem lof_bad (w : Int) (a : Option Addr) (len cap : Nat) (h : isW w = false ∨ ∃ m c : Nat, w = m ∧ IsW m ∧ 128 / m = c ∧ len ≠ c ∧ len ≤ 2 ^ 63 - 1) (W : World) (hT : WTabs W) :
    Calls Tryd.prog 104 #[.int .i64 w, .slice a len cap] W fun e W' => e = .returned (vecE ((0, 0), 2)) ∧ Below W.heap.size W W' := by
  have BB : Below W.heap.size W (W.alloc (.cells #[.int .u64 0, .int .u64 0] 25)) := below_two _ _
  have F := lisWidth_calls w _ (hT.later BB)
  have RB : Hide (VBlk (W.alloc (.cells #[.int .u64 0, .int .u64 0] 25)) W.heap.size (0, 0)) := hide (alloc_at rfl)
  have HB := hide BB
  clear BB hT
  unfold vecE vecV
  rcases h with h | ⟨m, c, rfl, hm, hc, hne, hlen⟩
  · rw [h] at F
    have F := hide F
    clear h
    go_enter Tryd.func104, Tryd.ntmps104
    go_wp2_with fail
    refine F.out.mono ?_
    rintro e w1 ⟨rfl, hb⟩
    have BN := hide (HB.out.trans (hb.mono HB.out.size))
    have R1 := hide (RB.out.later hb RB.out.lt)
    have g0 := R1.out.c0
    have g1 := R1.out.c1
    have z0 := R1.out.frozen 0
    have z1 := R1.out.frozen 1
    clear hb HB
    go_wp2
    refine bodyPost_ret (v := vecE ((0, 0), 2)) ((R1.out.set2 0 0).result2 (by rfl) _ rfl rfl) rfl ?_
    exact ⟨rfl, (BN.out.setCell (by simp) _).setCell (by simp) _⟩
  · rw [(isW_iff m).2 ⟨m, rfl, hm⟩] at F
    have F := hide F
    have hq := q128 hm
    rw [hc] at hq
    have hw0 : ((m : Int) == 0) = false := by have := hm.pos; simp; omega
    have hw1 : (m : Int) ≠ 0 := by have := hm.pos; omega
    have hc16 : c ≤ 16 := by rw [← hc]; rcases hm with rfl | rfl | rfl | rfl <;> decide
    have hwc : wrap64 (c : Int) = (c : Int) := by unfold wrap64; omega
    have hn1 : ((len : Int) == (c : Int)) = false := by simp; omega
    have hn2 : ((len : Int) != (c : Int)) = true := by simp; omega
    have hn3 : ¬ ((len : Int) = (c : Int)) := by omega
    clear hc hm
    go_enter Tryd.func104, Tryd.ntmps104
    go_wp2_with fail
    refine F.out.mono ?_
    rintro e w1 ⟨rfl, hb⟩
    have BN := hide (HB.out.trans (hb.mono HB.out.size))
    have R1 := hide (RB.out.later hb RB.out.lt)
    have g0 := R1.out.c0
    have g1 := R1.out.c1
    have z0 := R1.out.frozen 0
    have z1 := R1.out.frozen 1
    clear hb HB
    go_wp2
    refine bodyPost_ret (v := vecE ((0, 0), 2)) ((R1.out.set2 0 0).result2 (by rfl) _ rfl rfl) rfl ?_
    exact ⟨rfl, (BN.out.setCell (by simp) _).setCell (by simp) _⟩

set_option maxHeartbeats 1000000 in
theorem lof_ok {w c : Nat} (hw : IsW w) (hc : 128 / w = c) (b off cap : Nat) (l : List Nat) (hl : l.length = c) (h64 : ∀ i, at0 l i < 2 ^ 64) (W : World) (hT : WTabs W)
    (hcell : ∀ i, i < c → W.cell? ⟨b, off + i, none⟩ = some (.int .u64 (at0 l i : Int))) :
    Calls Tryd.prog 104 #[.int .i64 (w : Int), .slice (some ⟨b, off, none⟩) c cap] W fun e W' => e = .returned (vecE (if okAll w l then (vecN w l, 0) else ((0, 0), 2))) ∧ Below W.heap.size W W' := by
  have BB : Below W.heap.size W (W.alloc (.cells #[.int .u64 0, .int .u64 0] 25)) := below_two _ _
  have F := lisWidth_calls w _ (hT.later BB)
  have RB : Hide (VBlk (W.alloc (.cells #[.int .u64 0, .int .u64 0] 25)) W.heap.size (0, 0)) := hide (alloc_at rfl)
  have HB := hide BB
  rw [(isW_iff w).2 ⟨w, rfl, hw⟩] at F
  have F := hide F
  have HT := hide hT
  have CF := hide (fun n W1 hT1 => lfit_calls (w : Int) n W1 hT1)
  have CW : Hide (∀ (k : Nat), k < c → (∀ j, j ≤ k → ok1 (w : Int) (at0 l j : Int) = true) → ∀ W', Calls Tryd.prog 76 #[vecV (vecTo w l k), .int .i64 (w : Int), .int .i64 (k : Int), .int .u64 (at0 l k : Int)] W' fun e W'' => e = .returned (vecV (vecTo w l (k + 1))) ∧ Below W'.heap.size W' W'') := hide (fun k hk hok W' => by
    exact with_calls hw (i := k) (n := at0 l k) (by omega) (ok1_lt (hok k (Nat.le_refl _))) (vecTo w l k) (vecTo_ok2 hw k (by omega) (fun j hj => ok1_lt (hok j (by omega)))) W')
  have hq := q128 hw
  rw [hc] at hq
  have hw0 : ((w : Int) == 0) = false := by have := hw.pos; simp; omega
  have hw1 : (w : Int) ≠ 0 := by have := hw.pos; omega
  have hc16 : c ≤ 16 := by rw [← hc]; rcases hw with rfl | rfl | rfl | rfl <;> decide
  have hwc : wrap64 (c : Int) = (c : Int) := by unfold wrap64; omega
  have HN : Hide (vecN w l = vecTo w l c) := hide (by unfold vecN; rw [hc])
  have HL := hide hl
  have HC := hide hcell
  obtain ⟨R, hR⟩ : ∃ R, (if okAll w l then (vecN w l, 0) else (((0, 0) : Nat × Nat), (2 : Int))) = R := ⟨_, rfl⟩
  rw [hR]
  have HR := hide hR
  clear BB hT hl hc hw hcell hR h64
  unfold vecV at CW
  go_enter Tryd.func104, Tryd.ntmps104
  go_wp2_with fail
  refine F.out.mono ?_
  rintro e w1 ⟨rfl, hb⟩
  have BN := hide (HB.out.trans (hb.mono HB.out.size))
  have R1 := hide (RB.out.later hb RB.out.lt)
  have HG : Hide (W.heap.size < w1.heap.size) := hide R1.out.lt
  clear hb HB RB F
  go_wp2_with fail
  go_loopw [22] (fun x wr => ∃ k : Nat, x = .int .i64 (k : Int) ∧ k ≤ c ∧ (∀ j, j < k → ok1 (w : Int) (at0 l j : Int) = true) ∧ VAt W.heap.size w1.heap.size W (vecTo w l k) wr) (fun x _ => c - (intOf x).toNat)
  case atStart =>
    exact ⟨0, rfl, by omega, fun j hj => by omega, alloc_past R1.out, alloc_at rfl, BN.out.alloc BN.out.size _⟩
  case round =>
    obtain ⟨k, rfl, hk, hok, hr⟩ := hrel
    have HOK := hide hok
    have HQ := hide hq
    clear hq hok
    by_cases c0 : k < c
    · have c1 : (k : Int) < (c : Int) := by omega
      have c2 : (k : Int) < 16 := by omega
      have H := hide hr
      have hck : wr.cell? ⟨b, off + k, none⟩ = some (.int .u64 (at0 l k : Int)) := cell_later hr.2.2 (HC.out k c0) (Nat.le_refl _)
      have FK := CF.out (at0 l k : Int) wr (HT.out.later hr.2.2)
      cases ho : ok1 (w : Int) (at0 l k : Int) with
      | false =>
        rw [ho] at FK
        have FK := hide FK
        have e1 := okAll_false (w := (w : Int)) (k := k) (by rw [HL.out]; exact c0) ho
        have e2 : R = ((0, 0), 2) := by rw [← HR.out, e1]; rfl
        subst e2
        clear hr ho CW CF e1 HR
        generalize at0 l k = n at *
        go_wp2_with fail
        refine FK.out.mono ?_
        rintro e w2 ⟨rfl, hb⟩
        have K1 : Hide (VAt W.heap.size w1.heap.size W (vecTo w l k) w2) := by
          obtain ⟨a1, a2, a3⟩ := H.out
          exact hide ⟨a1.later hb a1.lt, a2.later hb a2.lt, a3.trans (hb.mono a3.size)⟩
        have g0 := K1.out.1.c0
        have g1 := K1.out.1.c1
        have z0 := K1.out.1.frozen 0
        have z1 := K1.out.1.frozen 1
        clear hb hck
        go_wp2
        refine bodyPost_ret (v := vecE ((0, 0), 2)) ((K1.out.1.set2 0 0).result2 (by rfl) _ rfl rfl) rfl ?_
        exact ⟨rfl, (K1.out.2.2.setCell (by simp) _).setCell (by simp) _⟩
      | true =>
        rw [ho] at FK
        have FK := hide FK
        have OK2 : Hide (∀ j, j < k + 1 → ok1 (w : Int) (at0 l j : Int) = true) := hide (fun j hj => by
          by_cases e : j = k
          · subst e; exact ho
          · exact HOK.out j (by omega))
        have CK := hide (CW.out k c0 (fun j hj => OK2.out j (by omega)))
        obtain ⟨⟨p, q⟩, hv'⟩ : ∃ v', vecTo w l (k + 1) = v' := ⟨_, rfl⟩
        have HV := hide hv'
        rw [hv'] at CK
        obtain ⟨⟨lo, hi⟩, hu⟩ : ∃ v', vecTo w l k = v' := ⟨_, rfl⟩
        rw [hu] at CK H
        clear hr ho CW CF hv' hu
        generalize at0 l k = n at *
        simp only at CK
        go_wp2_with fail
        refine FK.out.mono ?_
        rintro e w2 ⟨rfl, hb⟩
        have K1 : Hide (VAt W.heap.size w1.heap.size W (lo, hi) w2) := by
          obtain ⟨a1, a2, a3⟩ := H.out
          exact hide ⟨a1.later hb a1.lt, a2.later hb a2.lt, a3.trans (hb.mono a3.size)⟩
        have h0 := K1.out.2.1.c0
        have h1 := K1.out.2.1.c1
        simp only at h0 h1
        clear hb hck H
        go_wp2_with fail
        refine (CK.out _).mono ?_
        rintro e w3 ⟨rfl, hb⟩
        have K2 : Hide (VAt W.heap.size w1.heap.size W (lo, hi) w3) := by
          obtain ⟨a1, a2, a3⟩ := K1.out
          exact hide ⟨a1.later hb a1.lt, a2.later hb a2.lt, a3.trans (hb.mono a3.size)⟩
        have hc0 := K2.out.2.1.c0
        have hc1 := K2.out.2.1.c1
        have hz0 := K2.out.2.1.frozen 0
        have hz1 := K2.out.2.1.frozen 1
        clear h0 h1 hb K1
        go_wp2
        go_roundw
        case rel =>
          obtain ⟨a1, a2, a3⟩ := K2.out
          have hg := HG.out
          refine ⟨k + 1, by go_num, by omega, OK2.out, ?_, ?_, (a3.setCell (by simp; omega) _).setCell (by simp; omega) _⟩
          · exact (a1.other (by omega) _ _).other (by omega) _ _
          · rw [HV.out]; exact a2.set2 p q
        case measure => simp [intOf]; omega
    · obtain rfl : k = c := by omega
      have e2 : R = (vecN w l, 0) := by rw [← HR.out, okAll_true (by rw [HL.out]; exact HOK.out)]; rfl
      subst e2
      have H := hide hr
      have hr2 := hr.2.1
      obtain ⟨⟨fp, fq⟩, hF⟩ : ∃ F, vecTo w l k = F := ⟨_, rfl⟩
      have HF : Hide (vecN w l = (fp, fq)) := hide (by rw [HN.out, hF])
      rw [hF] at hr2
      have h0 := hr2.c0
      have h1 := hr2.c1
      have g0 := hr.1.c0
      have g1 := hr.1.c1
      have z0 := hr.1.frozen 0
      have z1 := hr.1.frozen 1
      clear hr hr2 CW HR HN hF CF
      simp only at h0 h1
      go_wp2
      refine bodyPost_ret (v := vecE ((fp, fq), 0)) ((H.out.1.set2 fp fq).result2 (by rfl) _ rfl rfl) rfl ?_
      exact ⟨by rw [HF.out], (H.out.2.2.setCell (by simp) _).setCell (by simp) _⟩

theorem lof_calls (w : Int) (a : Option Addr) (len cap : Nat) (l : List Nat) (W : World) (hT : WTabs W) (hr : RowW W a len l) :
    Calls Tryd.prog 104 #[.int .i64 w, .slice a len cap] W fun e W' => e = .returned (vecE (ofV w l)) ∧ Below W.heap.size W W' := by
  obtain ⟨h1, h2, h3, h4⟩ := hr
  unfold ofV
  cases h : isW w with
  | false => simpa using lof_bad w a len cap (.inl h) W hT
  | true =>
    obtain ⟨m, rfl, hm⟩ := (isW_iff w).1 h
    by_cases c : len = 128 / m
    · obtain ⟨b, off, rfl, hc⟩ := h4 (by rw [c]; rcases hm with rfl | rfl | rfl | rfl <;> decide)
      have e : (l.length == 128 / (m : Int).toNat) = true := by simp [h1, c]
      rw [e]
      subst c
      simpa using lof_ok hm rfl b off cap l h1 h3 W hT hc
    · have e : (l.length == 128 / (m : Int).toNat) = false := by simp [h1, c]
      rw [e]
      simpa using lof_bad m a len cap (.inr ⟨m, _, rfl, hm, rfl, c, h2⟩) W hT
end Go.Proofs.YtpeckiaimellmaaDoor
/-
  lanes.All; the document's Words.
-/
set_option linter.unusedVariables false
set_option linter.unusedSimpArgs false
namespace Go.Proofs.YtpeckiaimellmaaDoor
open Go.RowKit Lan

def cellsW (L : List Nat) : Array Value := (L.map fun n : Nat => Value.int .u64 (n : Int)).toArray
def WBlk (w : World) (g : Nat) (L : List Nat) : Prop := w.heap[g]? = some (.cells (cellsW L) 23 (0, 0))

theorem cellsW_size (L : List Nat) : (cellsW L).size = L.length := by simp [cellsW]
theorem cellsW_set (L : List Nat) (k n : Nat) : (cellsW L).setIfInBounds k (.int .u64 (n : Int)) = cellsW (L.set k n) := by
  apply Array.ext'
  simp [cellsW, List.map_set]
theorem cellsW_get (L : List Nat) (k : Nat) (hk : k < L.length) : (cellsW L)[k]? = some (.int .u64 (at0 L k : Int)) := by
  simp [cellsW, at0, List.getElem?_eq_getElem hk]
theorem WBlk.cell {w : World} {g : Nat} {L : List Nat} (h : WBlk w g L) (k : Nat) (hk : k < L.length) : w.cell? ⟨g, k, none⟩ = some (.int .u64 (at0 L k : Int)) := by
  unfold WBlk at h
  simp [World.cell?, h, cellsW_get L k hk]
theorem WBlk.frozen {w : World} {g : Nat} {L : List Nat} (h : WBlk w g L) (k : Nat) : w.frozen? ⟨g, k, none⟩ = false := frozen_of_row w g k _ _ h
theorem WBlk.lt {w : World} {g : Nat} {L : List Nat} (h : WBlk w g L) : g < w.heap.size := (Array.getElem?_eq_some_iff.1 h).1
theorem WBlk.later {w w' : World} {g : Nat} {L : List Nat} (h : WBlk w g L) {B : Nat} (hb : Below B w w') (hg : g < B) : WBlk w' g L := (hb.block g hg).trans h
theorem WBlk.set {w : World} {g : Nat} {L : List Nat} (h : WBlk w g L) (k n : Nat) : WBlk (w.setCell ⟨g, k, none⟩ (.int .u64 (n : Int))) g (L.set k n) := by
  unfold WBlk
  rw [heap_setCell_same w g k _ _ _ h, cellsW_set]
theorem WBlk.other {w : World} {g g' : Nat} {L : List Nat} (h : WBlk w g L) (hg : g ≠ g') (j : Nat) (x : Value) : WBlk (w.setCell ⟨g', j, none⟩ x) g L :=
  (heap_setCell_other _ _ _ _ hg).trans h
theorem WBlk.row {w : World} {g : Nat} {L : List Nat} (h : WBlk w g L) (hl : L.length ≤ 2 ^ 63 - 1) (hL : ∀ i, at0 L i < 2 ^ 64) : RowW w (some ⟨g, 0, none⟩) L.length L :=
  ⟨rfl, hl, hL, fun _ => ⟨g, 0, rfl, fun i hi => by rw [Nat.zero_add]; exact h.cell i hi⟩⟩

/-- The first k of c filled in. -/
def fillC (c : Nat) (f : Nat → Nat) (k : Nat) : List Nat := (List.range c).map fun j => if j < k then f j else 0
theorem fillC_length (c : Nat) (f : Nat → Nat) (k : Nat) : (fillC c f k).length = c := by simp [fillC]
theorem fillC_set (c : Nat) (f : Nat → Nat) (k : Nat) (hk : k < c) : (fillC c f k).set k (f k) = fillC c f (k + 1) := by
  apply List.ext_getElem
  · simp [fillC]
  · intro j h1 h2
    simp only [fillC, List.getElem_set, List.getElem_map, List.getElem_range]
    by_cases e : k = j
    · subst e; simp
    · by_cases d : j < k
      · simp [e, d, show j < k + 1 by omega]
      · simp [e, d, show ¬ j < k + 1 by omega]
theorem fillC_all (c : Nat) (f : Nat → Nat) : fillC c f c = (List.range c).map f := by
  apply List.map_congr_left
  intro j hj
  simp at hj
  simp [hj]
theorem fillC_zero (c : Nat) (f : Nat → Nat) : fillC c f 0 = List.replicate c 0 := by
  unfold fillC
  rw [List.eq_replicate_iff]
  simp

theorem made_words (n : Nat) : madeCells #[Value.int .u64 0] n = cellsW (List.replicate n 0) := by
  apply Array.ext'
  simp [madeCells, cellsW, List.eq_replicate_iff, Nat.mod_one]
theorem infoW : (Tryd.prog.info? 23).map (fun i => (i.zero, i.size, i.bytes)) = some (some (.int .u64 0), 1, 8) := by kernel_rfl

def AllAt (g0 g1 : Nat) (W : World) (v : Nat × Nat) (L : List Nat) (wr : World) : Prop :=
  VBlk wr g0 v ∧ WBlk wr g1 L ∧ Below W.heap.size W wr
def AllPost (W : World) (c : Nat) (L : List Nat) (e : Ending) (W' : World) : Prop :=
  ∃ g, W.heap.size ≤ g ∧ e = .returned (.tuple #[.slice (some ⟨g, 0, none⟩) c c, .int .i64 0]) ∧ WBlk W' g L ∧ Below W.heap.size W W'

end Go.Proofs.YtpeckiaimellmaaDoor
/-
  What a vector and sixteen bytes are, as they are handed in.
-/
set_option linter.unusedVariables false
namespace Go.Proofs.YtpeckiaimellmaaDoor
open Go.ChangeShapes Go.WideShapes Go.ChangeAt Go.RowKit Lan

theorem wf_nat64 {x : Int} (h : (Lit.int .u64 x).wf = true) : ∃ n : Nat, x = n ∧ n < 2 ^ 64 := by
  simp [Lit.wf, IntKind.min, IntKind.max, IntKind.bits, IntKind.signed] at h
  exact ⟨x.toNat, by omega, by omega⟩
theorem wf_nat8 {x : Int} (h : (Lit.int .u8 x).wf = true) : ∃ n : Nat, x = n ∧ n < 2 ^ 8 := by
  simp [Lit.wf, IntKind.min, IntKind.max, IntKind.bits, IntKind.signed] at h
  exact ⟨x.toNat, by omega, by omega⟩

set_option maxRecDepth 100000 in
theorem vec_arg {H : Type} {enc : TypeId × Value → H} {W : World} {base b2 : Nat} {sp : Nat → Bool} {held : Bool} {v : Value} {d : DataW H} {p : List MemPlace}
    (hk : Value.okWide Tryd.prog W .any base 25 v) (h : DataW.Trod enc Tryd.prog W b2 sp held 25 v d p) : ∃ x : Nat × Nat, v = vecV x ∧ Vok x := by
  obtain ⟨cs, rfl, hs⟩ := okWide_struct Tryd.underlying25 hk
  have e : Tryd.prog.cellsOf 25 = 2 := by kernel_rfl
  have e1 : Tryd.prog.cellsOf 23 = 1 := by kernel_rfl
  rw [e] at hs
  obtain ⟨l⟩ := cs
  match l, hs with
  | [c0, c1], _ =>
    obtain ⟨fuel, hf⟩ := h
    obtain ⟨y0, y1, n, _, _, h0, h1⟩ := trod_struct2 Tryd.underlying25 hf
    simp only [e1] at h0 h1
    obtain ⟨x0, e0, _, w0⟩ := DataW.trod_int Tryd.underlying23 h0
    obtain ⟨x1, e1, _, w1⟩ := DataW.trod_int Tryd.underlying23 h1
    simp [Value.cells] at e0 e1
    obtain ⟨n0, rfl, l0⟩ := wf_nat64 w0
    obtain ⟨n1, rfl, l1⟩ := wf_nat64 w1
    exact ⟨(n0, n1), by rw [e0, e1]; rfl, l0, l1⟩

set_option maxRecDepth 100000 in
theorem arr_arg {H : Type} {enc : TypeId × Value → H} {W : World} {base b2 : Nat} {sp : Nat → Bool} {held : Bool} {v : Value} {d : DataW H} {p : List MemPlace}
    (hk : Value.okWide Tryd.prog W .any base 70 v) (h : DataW.Trod enc Tryd.prog W b2 sp held 70 v d p) : ∃ L : List Nat, v = arrV L ∧ L.length = 16 ∧ Lanes 8 L := by
  simp only [Value.okWide, Tryd.underlying70] at hk
  obtain ⟨cs, rfl, h2, _⟩ := hk
  have e : Tryd.prog.cellsOf 70 = 16 := by kernel_rfl
  have e1 : Tryd.prog.cellsOf 5 = 1 := by kernel_rfl
  rw [e] at h2
  obtain ⟨fuel, hf⟩ := h
  obtain ⟨xs, m, _, _, _, hlen, hi⟩ := DataW.trod_array Tryd.underlying70 hf
  rw [e1] at hi
  obtain ⟨l⟩ := cs
  have h2' : l.length = 16 := by simpa using h2
  have one : ∀ i, i < 16 → ∃ n : Nat, l[i]? = some (.int .u8 (n : Int)) ∧ n < 2 ^ 8 := by
    intro i hi16
    have hg : l[i]? = some (l[i]'(by omega)) := List.getElem?_eq_getElem (by omega)
    have h1 := hi i hi16
    have hx : i < xs.length := by omega
    rw [List.getElem?_eq_getElem hx] at h1
    have hd : (l.drop (i * 1)).take 1 = [l[i]'(by omega)] := by
      rw [Nat.mul_one, List.drop_eq_getElem_cons (by omega)]; rfl
    simp only [Value.cells] at h1
    rw [hd] at h1
    obtain ⟨z, e0, _, wz⟩ := DataW.trod_int Tryd.underlying5 h1
    simp at e0
    obtain ⟨n, rfl, ln⟩ := wf_nat8 wz
    exact ⟨n, by rw [hg, e0], ln⟩
  refine ⟨l.map fun c => match c with | .int _ x => x.toNat | _ => 0, ?_, by simpa using h2', ?_⟩
  · unfold arrV cellsB
    congr 1
    apply Array.ext'
    apply List.ext_getElem?
    intro i
    simp only [List.getElem?_map]
    by_cases c : i < 16
    · obtain ⟨n, hn, _⟩ := one i c
      rw [hn]; simp
    · have : l[i]? = none := List.getElem?_eq_none (by omega)
      rw [this]; rfl
  · intro i
    unfold at0
    rw [List.getElem?_map]
    by_cases c : i < 16
    · obtain ⟨n, hn, ln⟩ := one i c
      rw [hn]; simpa using ln
    · have : l[i]? = none := List.getElem?_eq_none (by omega)
      rw [this]; exact Nat.two_pow_pos 8
end Go.Proofs.YtpeckiaimellmaaDoor
