/-
  What the rows' list of tables gives: the widths, and math/bits' table for the lowest bit.
-/
import Derived.Test.YtfahogbiekmdfabDoorRows
import Derived.Lib.LaidU8
import Derived.Lib.LaidTab
import Derived.Shelf.Spec.TrailingZeros
import Derived.KernelRfl
import Derived.Below
set_option linter.unusedVariables false
namespace Go.Proofs.YtfahogbiekmdfabDoor
open Go.Shelf Go.Lib Go.RowKit

def widthsTab : List Int := [8, 16, 32, 64]

/-- The tables' cells, as the walks ask for them. -/
structure WTabs (w : World) : Prop where
  widths : ∃ t fr, w.heap[1]? = some (.cells #[.int .i64 8, .int .i64 16, .int .i64 32, .int .i64 64] t fr)
structure Tabs (w : World) : Prop extends WTabs w where
  lowest : TabAt 0 Lib.deBruijn64tab w

theorem widths_is : (Rows.laid_jacquard_ints_widths : DataW Unit) = tabData .i64 widthsTab := by kernel_rfl
theorem lowest_is : (Rows.laid_math_bits_deBruijn64tab : DataW Unit) = tabData .u8 (deBruijn64tab.map Int.ofNat) := by kernel_rfl

theorem widths_named : Tryd.prog.globalNamed "jacquard/ints.widths" = some 1 := by kernel_rfl
theorem lowest_named : Tryd.prog.globalNamed "math/bits.deBruijn64tab" = some 0 := by kernel_rfl
theorem widths_type : (Tryd.prog.globals[1]?).map (·.type) = some 63 := by kernel_rfl
theorem lowest_type : (Tryd.prog.globals[0]?).map (·.type) = some 62 := by kernel_rfl
theorem under4 : Tryd.prog.underlying 63 = some (.array 4 3) := by kernel_rfl
theorem under64 : Tryd.prog.underlying 62 = some (.array 64 5) := by kernel_rfl
theorem underi : Tryd.prog.underlying 3 = some (.int .i64) := by kernel_rfl
theorem underb : Tryd.prog.underlying 5 = some (.int .u8) := by kernel_rfl
theorem cells4 : Tryd.prog.cellsOf 63 = 4 := by kernel_rfl
theorem cells64 : Tryd.prog.cellsOf 62 = 64 := by kernel_rfl
theorem cellsi : Tryd.prog.cellsOf 3 = 1 := by kernel_rfl
theorem cellsb : Tryd.prog.cellsOf 5 = 1 := by kernel_rfl

theorem wtabs_reads {W : World} (h1 : VarReads Tryd.prog W "jacquard/ints.widths" (tabData .i64 widthsTab)) : WTabs W := by
  refine ⟨?_⟩
  obtain ⟨g, t, cs, fuel, p, hg, hty, hvar, hd⟩ := h1
  obtain rfl := Option.some.inj (widths_named.symm.trans hg)
  obtain rfl := Option.some.inj (widths_type.symm.trans hty)
  have hcs := cells_of_tab under4 underi cellsi cells4 hd
  simp only [World.var?, widths_named, Option.bind_some] at hvar
  split at hvar
  · next cs' t' fr he =>
    refine ⟨t', fr, ?_⟩
    rw [he]
    obtain rfl := Option.some.inj hvar
    have e : cs' = #[.int .i64 8, .int .i64 16, .int .i64 32, .int .i64 64] := by
      rw [← Array.toList_inj, hcs]; rfl
    rw [e]
  · cases hvar
theorem wtabs_of {W : World} (h : laidMet Tryd.prog [("jacquard/ints.widths", Rows.laid_jacquard_ints_widths)] W) : WTabs W :=
  wtabs_reads (laidMet.reads h (by rw [widths_is]; simp))
theorem tabs_of {W : World} (h : laidMet Tryd.prog [("math/bits.deBruijn64tab", Rows.laid_math_bits_deBruijn64tab), ("jacquard/ints.widths", Rows.laid_jacquard_ints_widths)] W) : Tabs W := by
  have h1 : VarReads Tryd.prog W "jacquard/ints.widths" (tabData .i64 widthsTab) := laidMet.reads h (by rw [widths_is]; simp)
  have h2 : VarReads Tryd.prog W "math/bits.deBruijn64tab" (tabData .u8 (deBruijn64tab.map Int.ofNat)) := laidMet.reads h (by rw [lowest_is]; simp)
  refine ⟨wtabs_reads h1, fun j hj => ?_⟩
  · obtain ⟨g, t, cs, fuel, p, hg, hty, hvar, hd⟩ := h2
    obtain rfl := Option.some.inj (lowest_named.symm.trans hg)
    obtain rfl := Option.some.inj (lowest_type.symm.trans hty)
    have hcs := cells_of_tab under64 underb cellsb cells64 hd
    rw [World.var?_cell hg hvar j, ← Array.getElem?_toList, hcs]
    simp [List.getElem?_eq_getElem hj, List.getD]

theorem WTabs.later {w w' : World} (h : WTabs w) (hb : Below w.heap.size w w') : WTabs w' := by
  obtain ⟨t, fr, e⟩ := h.widths
  refine ⟨t, fr, ?_⟩
  rw [hb.block _ ?_]
  · exact e
  · rcases Nat.lt_or_ge 1 w.heap.size with h' | h'
    · exact h'
    · rw [Array.getElem?_eq_none h'] at e; cases e
theorem Tabs.later {w w' : World} (h : Tabs w) (hb : Below w.heap.size w w') : Tabs w' := by
  have lt : ∀ {a : Addr} {v : Value}, w.cell? a = some v → a.block < w.heap.size := fun {a v} hc => by
    rcases Nat.lt_or_ge a.block w.heap.size with h' | h'
    · exact h'
    · simp [World.cell?, Array.getElem?_eq_none h'] at hc
  exact ⟨h.toWTabs.later hb, fun j hj => (hb.cell (lt (h.lowest j hj))).trans (h.lowest j hj)⟩
end Go.Proofs.YtfahogbiekmdfabDoor
