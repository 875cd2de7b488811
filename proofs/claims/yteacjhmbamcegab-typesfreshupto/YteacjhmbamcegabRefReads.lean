/-
  The walks of the document's 'may', 'U' and 'S'.
-/
import Derived.Test.YteacjhmbamcegabRefNumber
import Derived.Test.YteacjhmbamcegabLebReads
namespace Go.Proofs.Yteacjhmbamcegab
open Go.RowKit
set_option linter.unusedVariables false

theorem maxOf (wd : Int) (h1 : 1 ≤ wd) (h2 : wd ≤ 64) : (18446744073709551615 : Int) / 2 ^ (64 - wd).toNat = 2 ^ wd.toNat - 1 := by
  obtain ⟨n, rfl⟩ := Int.eq_ofNat_of_zero_le (show 0 ≤ wd by omega)
  have all : ∀ m : Fin 65, (18446744073709551615 : Int) / 2 ^ (64 - ((m.val : Nat) : Int)).toNat = 2 ^ ((m.val : Nat) : Int).toNat - 1 := by decide +kernel
  exact all ⟨n, by omega⟩

end Go.Proofs.Yteacjhmbamcegab
