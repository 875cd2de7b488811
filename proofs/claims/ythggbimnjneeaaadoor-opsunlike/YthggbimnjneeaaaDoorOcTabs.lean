/-
  What the rows' list of tables gives: strings.asciiSpace's cells.
-/
import Derived.Test.YthggbimnjneeaaaDoorRows
import Derived.Lib.LaidU8
import Derived.Lib.Space
import Derived.KernelRfl
import Derived.Below
set_option linter.unusedVariables false
namespace Go.Proofs.YthggbimnjneeaaaDoor
open Go.Shelf Go.Lib Go.RowKit

def STab (w : World) : Prop := ∀ c : Nat, c < 256 → w.cell? ⟨0, c, none⟩ = some (.int .u8 (if Lib.isSp (UInt8.ofNat c) then 1 else 0))
theorem STab.later {w w' : World} (h : STab w) (hb : Below w.heap.size w w') : STab w' := fun c hc =>
  (World.cell?_of_block (hb.block _ (World.block_lt_of_cell? _ _ (h c hc)))).trans (h c hc)
theorem space_is : (Rows.laid_strings_asciiSpace : DataW Unit) = tabData .u8 asciiSpaceTab := by kernel_rfl
theorem gS : Tryd.prog.globalNamed "strings.asciiSpace" = some 0 := by kernel_rfl
theorem gST : (Tryd.prog.globals[0]?).map (·.type) = some 77 := by kernel_rfl
theorem gSu : Tryd.prog.underlying 77 = some (.array 256 5) := by kernel_rfl
theorem gSe : Tryd.prog.underlying 5 = some (.int .u8) := by kernel_rfl
theorem gSc : Tryd.prog.cellsOf 5 = 1 := by kernel_rfl
theorem gSn : Tryd.prog.cellsOf 77 = 256 := by kernel_rfl
theorem stab_of_reads {W : World} (h : VarReads Tryd.prog W "strings.asciiSpace" (tabData .u8 asciiSpaceTab)) : STab W := by
  intro c hc
  obtain ⟨g, t, cs, fuel, p, hg, hty, hvar, hd⟩ := h
  obtain rfl := Option.some.inj (gS.symm.trans hg)
  obtain rfl := Option.some.inj (gST.symm.trans hty)
  have hcs := cells_of_tab gSu gSe gSc gSn hd
  rw [World.var?_cell hg hvar c, ← Array.getElem?_toList, hcs]
  have hl : c < asciiSpaceTab.length := by rw [asciiSpaceTab_length]; exact hc
  have := asciiSpaceTab_at c hc
  rw [List.getD_eq_getElem?_getD, List.getElem?_eq_getElem hl, Option.getD_some] at this
  rw [List.getElem?_map, List.getElem?_eq_getElem hl, Option.map_some, this]
theorem tabs_of {W : World} (h : laidMet Tryd.prog [("unicode/utf8.acceptRanges", Rows.laid_unicode_utf8_acceptRanges), ("unicode.White_Space", Rows.laid_unicode_White_Space), ("strings.asciiSpace", Rows.laid_strings_asciiSpace), ("unicode/utf8.first", Rows.laid_unicode_utf8_first)] W) : STab W :=
  stab_of_reads (laidMet.reads (n := "strings.asciiSpace") h (by rw [space_is]; simp))
end Go.Proofs.YthggbimnjneeaaaDoor
