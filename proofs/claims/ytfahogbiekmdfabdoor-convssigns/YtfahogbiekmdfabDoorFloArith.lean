/-
  floats.arithmetic, floats.reckon, operator by operator (genarith.py wrote it).
-/
import Derived.Test.YtfahogbiekmdfabDoorFloWays
set_option linter.unusedVariables false
set_option linter.unusedSimpArgs false
namespace Go.Proofs.YtfahogbiekmdfabDoor
open Go.RowKit Flo

def ArPost (k : FloatKind) (op w a b : Nat) (W : World) (e : Ending) (W' : World) : Prop := ∃ r : Nat, e = .returned (.float k r) ∧ (r < 2 ^ w ∧ cl w r = arN op w a b) ∧ Below W.heap.size W W'
def RePost (op w a b : Nat) (W : World) (e : Ending) (W' : World) : Prop := ∃ r : Nat, e = .returned (.int .u64 (r : Int)) ∧ (r < 2 ^ w ∧ cl w r = arN op w a b) ∧ Below W.heap.size W W'

/-- What the model's operation gives, at a world. -/
theorem arith_run (op w : Nat) (h1 : 1 ≤ op) (h2 : op ≤ 4) (hw : IsW w) (a b : Nat) (W : World) : ∃ r : Nat, ∃ W' : World, (∀ t, (binOp (binOf op) t (.float (kindOf w) a) (.float (kindOf w) b)).run Tryd.prog W = .ok (.float (kindOf w) r) W') ∧ (r < 2 ^ w ∧ cl w r = arN op w a b) ∧ (W' = W ∨ W' = W.drew) := by
  have hb := floatBits_ar op w a b h1 h2
  cases h : floatBits (binOf op) (kindOf w) a b with
  | some r =>
    rw [h] at hb
    refine ⟨r, W, fun t => arith_some _ _ t _ _ _ _ h W, ?_, .inl rfl⟩
    have := gives_some hw h
    exact ⟨this.1, this.2.trans hb⟩
  | none =>
    rw [h] at hb
    have ho : binOf op = .add ∨ binOf op = .sub ∨ binOf op = .mul ∨ binOf op = .quo := by
      rcases (show op = 1 ∨ op = 2 ∨ op = 3 ∨ op = 4 by omega) with rfl | rfl | rfl | rfl <;> simp [binOf]
    refine ⟨_, W.drew, fun t => arith_none _ _ ho t _ _ _ h W, ?_, .inr rfl⟩
    have T : na w ((Question.nanBits (kindOf w) a b).cut (W.tape W.drawn (.nanBits (kindOf w) a b))) = true ∧ (Question.nanBits (kindOf w) a b).cut (W.tape W.drawn (.nanBits (kindOf w) a b)) < 2 ^ w := by
      rcases hw with rfl | rfl
      · exact tape32 (fun t => rfl) W
      · exact tape64 (fun t => rfl) W
    exact ⟨T.2, (cl_nan T.1).trans hb⟩

end Go.Proofs.YtfahogbiekmdfabDoor
