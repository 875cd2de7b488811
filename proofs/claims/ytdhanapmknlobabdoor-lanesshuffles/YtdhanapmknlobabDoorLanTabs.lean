/-
  What the rows' list of tables gives: the widths.
-/
import Derived.Test.YtdhanapmknlobabDoorRows
import Derived.Lib.LaidU8
import Derived.Lib.LaidTab
import Derived.Shelf.Spec.TrailingZeros
import Derived.KernelRfl
import Derived.Below
set_option linter.unusedVariables false
namespace Go.Proofs.YtdhanapmknlobabDoor
open Go.Shelf Go.Lib Go.RowKit

def widthsTab : List Int := [8, 16, 32, 64]

/-- The tables' cells, as the walks ask for them. -/
structure WTabs (w : World) : Prop where
  widths : ∃ t fr, w.heap[0]? = some (.cells #[.int .i64 8, .int .i64 16, .int .i64 32, .int .i64 64] t fr)
theorem widths_is : (Rows.laid_jacquard_ints_widths : DataW Unit) = tabData .i64 widthsTab := by kernel_rfl

theorem widths_named : Tryd.prog.globalNamed "jacquard/ints.widths" = some 0 := by kernel_rfl
theorem widths_type : (Tryd.prog.globals[0]?).map (·.type) = some 64 := by kernel_rfl
theorem under4 : Tryd.prog.underlying 64 = some (.array 4 3) := by kernel_rfl
theorem underi : Tryd.prog.underlying 3 = some (.int .i64) := by kernel_rfl
theorem cells4 : Tryd.prog.cellsOf 64 = 4 := by kernel_rfl
theorem cellsi : Tryd.prog.cellsOf 3 = 1 := by kernel_rfl

theorem wtabs_reads {W : World} (h1 : VarReads Tryd.prog W "jacquard/ints.widths" (tabData .i64 widthsTab)) : WTabs W := by
  refine ⟨?_⟩
  obtain ⟨g, t, cs, fuel, p, hg, hty, hvar, hd⟩ := h1
  obtain rfl := Option.some.inj (widths_named.symm.trans hg)
  obtain rfl := Option.some.inj (widths_type.symm.trans hty)
  have hcs := cells_of_tab under4 underi cellsi cells4 hd
  simp only [World.var?, widths_named, Option.bind_some] at hvar
  split at hvar
  · next cs' t' fr he =>
    refine ⟨t', fr, ?_⟩
    rw [he]
    obtain rfl := Option.some.inj hvar
    have e : cs' = #[.int .i64 8, .int .i64 16, .int .i64 32, .int .i64 64] := by
      rw [← Array.toList_inj, hcs]; rfl
    rw [e]
  · cases hvar
theorem wtabs_of {W : World} (h : laidMet Tryd.prog [("jacquard/ints.widths", Rows.laid_jacquard_ints_widths)] W) : WTabs W :=
  wtabs_reads (laidMet.reads h (by rw [widths_is]; simp))
theorem WTabs.later {w w' : World} (h : WTabs w) (hb : Below w.heap.size w w') : WTabs w' := by
  obtain ⟨t, fr, e⟩ := h.widths
  refine ⟨t, fr, ?_⟩
  rw [hb.block _ ?_]
  · exact e
  · rcases Nat.lt_or_ge 0 w.heap.size with h' | h'
    · exact h'
    · rw [Array.getElem?_eq_none h'] at e; cases e
end Go.Proofs.YtdhanapmknlobabDoor
