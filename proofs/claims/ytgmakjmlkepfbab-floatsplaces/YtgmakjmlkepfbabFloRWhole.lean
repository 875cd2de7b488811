/-
  The document's whole, up, odd (genflo.py wrote it).
-/
import Derived.Test.YtgmakjmlkepfbabFloRefs
set_option linter.unusedVariables false
set_option linter.unusedSimpArgs false
namespace Go.Proofs.Ytgmakjmlkepfbab
open Go.RowKit Flo

theorem bias32 : bias Ieee.single = 127 := by decide +kernel
theorem binade32 : Ieee.single.binade = 8388608 := by decide
theorem digits32 : Ieee.single.fractionBits = 23 := rfl
def tupF (x : Nat × Bool × Bool × Bool) : Value := .tuple #[.int .u64 (x.1 : Int), .bool x.2.1, .bool x.2.2.1, .bool x.2.2.2]
theorem bias64 : bias Ieee.double = 1023 := by decide +kernel
theorem binade64 : Ieee.double.binade = 4503599627370496 := by decide
theorem digits64 : Ieee.double.fractionBits = 52 := rfl
def tupG (x : Nat × Bool × Bool × Bool) : Value := .tuple #[.int .u64 (x.1 : Int), .bool x.2.1, .bool x.2.2.1, .bool x.2.2.2]
end Go.Proofs.Ytgmakjmlkepfbab
