/-
  The walk of 'Same': rows of the same bytes are the same.
-/
import Derived.Test.YteacjhmbamcegabLebWorks
import Derived.BigQuiet
import Derived.Deep.QuietTactic
namespace Go.Proofs.Yteacjhmbamcegab
open Go.RowKit
set_option linter.unusedVariables false

set_option maxHeartbeats 400000 in
theorem same_some (b1 o1 c1 b2 o2 c2 len : Nat) (l : List Int) (w : World) (hm : len ≤ 2 ^ 63 - 1)
    (h1 : ∀ i, i < len → w.cell? ⟨b1, o1 + i, none⟩ = some (.int .u8 (l[i]?.getD 0))) (h2 : ∀ i, i < len → w.cell? ⟨b2, o2 + i, none⟩ = some (.int .u8 (l[i]?.getD 0))) :
    Calls Try.prog 20 #[.slice (some ⟨b1, o1, none⟩) len c1, .slice (some ⟨b2, o2, none⟩) len c2] w fun e w' => e = .returned (.bool true) ∧ ∃ n, w' = w.drewN n := by
  go_enter Try.func20, Try.ntmps20
  go_wp2
  go_loopw [5] (fun x wr => ∃ k n : Nat, x = .int .i64 k ∧ k ≤ len ∧ wr = w.drewN n) (fun x _ => len - (intOf x).toNat)
  case atStart => exact ⟨0, 0, rfl, Nat.zero_le _, rfl⟩
  case round =>
    obtain ⟨k, n, rfl, hk, rfl⟩ := hrel
    by_cases hlt : k < len
    · have g1 := h1 k hlt
      have g2 := h2 k hlt
      clear h1 h2
      generalize l[k]?.getD 0 = c at *
      go_wp2
      go_quiet (fail)
      go_wp2
      go_roundw
      case rel => exact ⟨k + 1, _, by go_num, by omega, rfl⟩
      case measure => simp [intOf]; omega
    · go_wp2
      go_ret
      exact ⟨rfl, _, rfl⟩

set_option maxHeartbeats 400000 in
theorem same_empty (a1 a2 : Option Addr) (c1 c2 : Nat) (w : World) :
    Calls Try.prog 20 #[.slice a1 0 c1, .slice a2 0 c2] w fun e w' => e = .returned (.bool true) ∧ ∃ n, w' = w.drewN n := by
  go_enter Try.func20, Try.ntmps20
  go_wp2
  go_loop [5] (fun x => x = .int .i64 0) (fun _ => 0)
  case atStart => exact rfl
  case round =>
    obtain rfl := hrel
    go_wp2
    go_ret
    exact ⟨rfl, 0, rfl⟩

theorem same_calls' (a1 a2 : Option Addr) (c1 c2 len : Nat) (l : List Int) (w : World) (H1 : Row w a1 len c1 l) (H2 : Row w a2 len c2 l) :
    Calls Try.prog 20 #[.slice a1 len c1, .slice a2 len c2] w fun e w' => e = .returned (.bool true) ∧ ∃ n, w' = w.drewN n := by
  obtain ⟨_, g1, g2, _, _, g3⟩ := H1
  obtain ⟨_, _, _, _, _, g4⟩ := H2
  by_cases h : 0 < len
  · obtain ⟨b1, o1, rfl, k1⟩ := g3 h
    obtain ⟨b2, o2, rfl, k2⟩ := g4 h
    unfold maxLen at g2
    exact same_some b1 o1 c1 b2 o2 c2 len l w (by omega) k1 k2
  · obtain rfl : len = 0 := by omega
    exact same_empty a1 a2 c1 c2 w
end Go.Proofs.Yteacjhmbamcegab
