/-
  The document's One.
-/
import Derived.Test.YtfahogbiekmdfabDoorZIntsOne
import Derived.Test.YtfahogbiekmdfabDoorZIntsRTwo
set_option linter.unusedVariables false
set_option linter.unusedSimpArgs false
namespace Go.Proofs.YtfahogbiekmdfabDoor.Z
open Go.RowKit Ints

/-- All at and above the bit are 0, and it is 0 too. -/
theorem below_bit (x i : Nat) (h : x < 2 ^ (i + 1)) (hb : bit x i = 0) : x < 2 ^ i := by
  have h1 := mod_succ x i
  rw [hb, Nat.mod_eq_of_lt h] at h1
  have := Nat.mod_lt x (Nat.two_pow_pos i)
  omega

theorem at_bit (x i : Nat) (h : x < 2 ^ (i + 1)) (hi : i < 64) (hb : bit x i = 1) : Lib.bitLen x = i + 1 := by
  refine len_at x i hi ?_ h
  have h1 := mod_succ x i
  rw [hb, Nat.mod_eq_of_lt h] at h1
  omega

theorem mod_bit (x i : Nat) (h : x % 2 ^ i = 0) (hb : bit x i = 0) : x % 2 ^ (i + 1) = 0 := by rw [mod_succ, h, hb]; rfl

/-! The operators, one by one -/

end Go.Proofs.YtfahogbiekmdfabDoor.Z
