/-
  The document's IsRef, Is, Has, May, MayTable, Fit, FitTable.
-/
import Derived.Test.YteacjhmbamcegabTypMath
import Derived.Test.YteacjhmbamcegabLebReads
set_option linter.unusedVariables false
set_option linter.unusedSimpArgs false
namespace Go.Proofs.Yteacjhmbamcegab
open Go.RowKit Typ

theorem hideT {p : Prop} (h : p) : Hid p := h
def limV (n x : Int) (b : Bool) : Value := .agg #[.int .u32 n, .int .u32 x, .bool b]
def tabV (e n x : Int) (b : Bool) : Value := .agg #[.int .u8 e, .int .u32 n, .int .u32 x, .bool b]
def valV (t lo hi : Int) : Value := .agg #[.int .u8 t, .int .u64 lo, .int .u64 hi]

theorem wrap_u32 {n : Int} (h0 : 0 ≤ n) (h1 : n ≤ 4294967295) : IntKind.u64.wrap n = n := by rw [IntKind.wrap_u64]; omega
theorem dec_true {p : Prop} [Decidable p] (h : decide p = true) : p := of_decide_eq_true h

end Go.Proofs.Yteacjhmbamcegab
