/-
  The laws' width of vints.
-/
import Derived.Test.YtoihfmammmkloaaDoorPkLan
set_option linter.unusedVariables false
set_option linter.unusedSimpArgs false
namespace Go.Proofs.YtoihfmammmkloaaDoor
open Go.RowKit Lan

def lwd7 (n : Nat) : Nat := if n % 4 = 0 then 8 else if n % 4 = 1 then 16 else if n % 4 = 2 then 32 else 64
theorem lwd7_cases (n : Nat) : lwd7 n = 8 ∨ lwd7 n = 16 ∨ lwd7 n = 32 ∨ lwd7 n = 64 := by
  unfold lwd7
  split
  · exact .inl rfl
  · split
    · exact .inr (.inl rfl)
    · split
      · exact .inr (.inr (.inl rfl))
      · exact .inr (.inr (.inr rfl))

set_option maxRecDepth 100000 in
set_option maxHeartbeats 1000000 in
theorem wid7_calls (n : Nat) (W : World) :
    Calls Tryd.prog 32 #[.int .u8 (n : Int)] W fun e W' => e = .returned (.int .i64 (lwd7 n : Int)) ∧ W' = W := by
  have E : (n : Int).tmod 4 = ((n % 4 : Nat) : Int) := (Int.ofNat_tmod n 4).symm
  unfold lwd7
  rcases (show n % 4 = 0 ∨ n % 4 = 1 ∨ n % 4 = 2 ∨ n % 4 = 3 by omega) with h | h | h | h
  all_goals
    rw [h] at E ⊢
    simp only [show ((0 : Nat) : Int) = 0 from rfl, show ((1 : Nat) : Int) = 1 from rfl, show ((2 : Nat) : Int) = 2 from rfl, show ((3 : Nat) : Int) = 3 from rfl] at E
    clear h
    go_enter Tryd.func32, Tryd.ntmps32
    go_wp2
    go_ret
    exact ⟨rfl, rfl⟩

theorem isL7 {w m : Nat} (hw : IsW w) (hm : m < 128 / w) : isL (w : Int) (m : Int) = true := by
  unfold isL
  rw [(isW_iff w).2 ⟨w, rfl, hw⟩]
  rcases hw with rfl | rfl | rfl | rfl <;> simp at hm ⊢ <;> omega
theorem get_at {w m : Nat} (hw : IsW w) (hm : m < 128 / w) (v : Nat × Nat) (hv : Vok v) (W : World) (hT : WTabs W) :
    Calls Tryd.prog 33 #[vecV v, .int .i64 (w : Int), .int .i64 (m : Int)] W fun e W' => e = .returned (.tuple #[.int .u64 (laneN v w m : Int), .int .i64 0]) ∧ Below W.heap.size W W' := by
  have := lget_calls v hv (w : Int) (m : Int) W hT
  unfold getV pairV at this
  rw [isL7 hw hm] at this
  simpa using this
end Go.Proofs.YtoihfmammmkloaaDoor
