/-
  The laws' width; the walk of LanesSet.
-/
import Derived.Test.YtdhanapmknlobaaDoorLanWorks
import Derived.Test.YtdhanapmknlobaaDoorLanGet
set_option linter.unusedVariables false
set_option linter.unusedSimpArgs false
namespace Go.Proofs.YtdhanapmknlobaaDoor
open Go.RowKit Lan

/-- The laws' width. -/
def lwd (n : Nat) : Nat := if n % 4 = 0 then 8 else if n % 4 = 1 then 16 else if n % 4 = 2 then 32 else 64
theorem lwd_ok (n : Nat) : IsW (lwd n) := by
  unfold lwd IsW
  split
  · exact .inl rfl
  · split
    · exact .inr (.inl rfl)
    · split
      · exact .inr (.inr (.inl rfl))
      · exact .inr (.inr (.inr rfl))

set_option maxRecDepth 100000 in
set_option maxHeartbeats 1000000 in
theorem wid_calls (n : Nat) (W : World) :
    Calls Tryd.prog 33 #[.int .u8 (n : Int)] W fun e W' => e = .returned (.int .i64 (lwd n : Int)) ∧ W' = W := by
  have E : (n : Int).tmod 4 = ((n % 4 : Nat) : Int) := (Int.ofNat_tmod n 4).symm
  unfold lwd
  rcases (show n % 4 = 0 ∨ n % 4 = 1 ∨ n % 4 = 2 ∨ n % 4 = 3 by omega) with h | h | h | h
  all_goals
    rw [h] at E ⊢
    simp only [show ((0 : Nat) : Int) = 0 from rfl, show ((1 : Nat) : Int) = 1 from rfl, show ((2 : Nat) : Int) = 2 from rfl, show ((3 : Nat) : Int) = 3 from rfl] at E
    clear h
    go_enter Tryd.func33, Tryd.ntmps33
    go_wp2
    go_ret
    exact ⟨rfl, rfl⟩

theorem cut_and {w x : Nat} (hw : IsW w) (hx : x < 2 ^ 64) : bits .and .u64 (x : Int) ((2 ^ w - 1 : Nat) : Int) = ((x % 2 ^ w : Nat) : Int) := by
  have h : 2 ^ w - 1 < 2 ^ 64 := by rcases hw with rfl | rfl | rfl | rfl <;> decide
  rw [bits_and_u64_nat x _ hx h, Nat.and_two_pow_sub_one_eq_mod]

end Go.Proofs.YtdhanapmknlobaaDoor
