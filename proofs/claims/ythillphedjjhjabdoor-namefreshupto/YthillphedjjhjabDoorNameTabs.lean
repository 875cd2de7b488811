/-
  What the rows' list of tables gives: the cells of unicode/utf8's two tables.
-/
import Derived.Test.YthillphedjjhjabDoorRows
import Derived.Lib.LaidU8T
import Derived.KernelRfl
import Derived.Below
namespace Go.Proofs.YthillphedjjhjabDoor
open Go.Shelf Go.Lib Go.RowKit

/-- The table's cells, as the walks ask for them. -/
def Tabs (w : World) : Prop := Lib.Utf8Tabs 0 1 w

def ren : Ren := ⟨fun x => x, fun x => if x = 5 then 5 else if x = 119 then 49 else if x = 138 then 51 else if x = 139 then 52 else 0, fun x => if x = 3 then 0 else 1⟩

theorem u8types : U8Types Tryd.prog ren := ⟨by kernel_rfl, by kernel_rfl, by kernel_rfl, by kernel_rfl⟩
theorem u8extra : U8Extra Tryd.prog ren := ⟨by kernel_rfl, by kernel_rfl, by kernel_rfl, by kernel_rfl, by kernel_rfl, by kernel_rfl, by kernel_rfl⟩

theorem first_is : Rows.laid_unicode_utf8_first = firstData := by kernel_rfl
theorem accept_is : (Rows.laid_unicode_utf8_acceptRanges : DataW Unit) = acceptData := by kernel_rfl

theorem tabs_of {W : World} (h : laidMet Tryd.prog [("unicode/utf8.acceptRanges", Rows.laid_unicode_utf8_acceptRanges), ("unicode/utf8.first", Rows.laid_unicode_utf8_first)] W) : Tabs W :=
  utf8Tabs_of_readsT u8types u8extra (laidMet.reads (n := "unicode/utf8.first") h (by rw [first_is]; simp)) (laidMet.reads (n := "unicode/utf8.acceptRanges") h (by rw [accept_is]; simp))

theorem Tabs.later {w w' : World} (h : Tabs w) (hb : Below w.heap.size w w') : Tabs w' := Utf8Tabs_below h hb

end Go.Proofs.YthillphedjjhjabDoor
