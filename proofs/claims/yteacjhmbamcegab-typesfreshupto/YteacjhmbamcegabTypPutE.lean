/-
  The document's PutLimits (genput9.py wrote it).
-/
import Derived.Test.YteacjhmbamcegabTypPutD
set_option linter.unusedVariables false
set_option linter.unusedSimpArgs false
namespace Go.Proofs.Yteacjhmbamcegab
open Go.RowKit Typ

def PutLJ (p1 p2 n1 n2 x1 x2 : Value) (A B : List Int) (wa : World) (d : Nat → Bool) (vs : List Value) (w : World) : Prop :=
  (d 0 = true → vs[0]?.getD undef = p1) ∧ (d 1 = true → vs[1]?.getD undef = n1) ∧ (d 2 = true → vs[2]?.getD undef = n2) ∧ (d 3 = true → OwnU w wa.heap.size (vs[3]?.getD undef) A) ∧ (d 4 = true → vs[4]?.getD undef = p2) ∧ (d 5 = true → vs[5]?.getD undef = x1) ∧ (d 6 = true → vs[6]?.getD undef = x2) ∧ (d 7 = true → OwnU w wa.heap.size (vs[7]?.getD undef) B) ∧ (d 8 = true → OwnU w wa.heap.size (vs[8]?.getD undef) A) ∧ (d 9 = true → OwnU w wa.heap.size (vs[9]?.getD undef) B) ∧ Below wa.heap.size wa w

end Go.Proofs.Yteacjhmbamcegab
