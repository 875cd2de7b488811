/-
  Steps of a region that only reads, over a class of worlds: a load by its run.
-/
import Derived.Test.YtdhanapmknlobabDoorLanBase
set_option linter.unusedVariables false
namespace Go.Proofs.YtdhanapmknlobabDoor
open Go.RowKit Lan

theorem wpQuiet_load {P : Program} {ops : Array Oper} {C : World → Prop} {Q : Act → Prop} {rest : List Oper} {o : Oper} {a : Act} (t : TypeId) (x : Operand) (ho : o.op = .load t x)
    (hw : Region.wanted o (yielded ops a.tmps) = true) (v u : Value) (hx : a.eval x = v) (hrun : ∀ w, C w → (Instr.loadAt t v).run P w = .ok u w)
    (h : wpQuiet P ops C Q rest (a.put o.dst u)) : wpQuiet P ops C Q (o :: rest) a := by
  simp only [wpQuiet, hw, if_true]
  refine ⟨u, fun w hC => ?_, h⟩
  unfold Oper.quietAt execOp
  simp [ho, hx, hrun w hC, Oper.quietUpon]
end Go.Proofs.YtdhanapmknlobabDoor
