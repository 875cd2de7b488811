/-
  The laws TypesFuncs, TypesOthers, over what is asked of types.
-/
import Derived.Test.YteacjhmbamcegabTypAsk
set_option linter.unusedVariables false
set_option linter.unusedSimpArgs false
namespace Go.Proofs.Yteacjhmbamcegab
open Go.RowKit Typ

theorem beq_self (l : List Int) : (l == l) = true := by simp
theorem SBlk.past {w : World} {g : Nat} {t : TypeId} {cs : Array Value} (h : SBlk w g t cs) (o : Obj) : SBlk (w.alloc o) g t cs := (heap_alloc_old w o h.lt).trans h

end Go.Proofs.Yteacjhmbamcegab
