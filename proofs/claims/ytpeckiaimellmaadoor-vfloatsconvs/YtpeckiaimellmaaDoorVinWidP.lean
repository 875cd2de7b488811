/-
  The laws' width of vints.
-/
import Derived.Test.YtpeckiaimellmaaDoorPkLan
set_option linter.unusedVariables false
set_option linter.unusedSimpArgs false
namespace Go.Proofs.YtpeckiaimellmaaDoor
open Go.RowKit Lan

def lwd7 (n : Nat) : Nat := if n % 4 = 0 then 8 else if n % 4 = 1 then 16 else if n % 4 = 2 then 32 else 64
theorem lwd7_cases (n : Nat) : lwd7 n = 8 ∨ lwd7 n = 16 ∨ lwd7 n = 32 ∨ lwd7 n = 64 := by
  unfold lwd7
  split
  · exact .inl rfl
  · split
    · exact .inr (.inl rfl)
    · split
      · exact .inr (.inr (.inl rfl))
      · exact .inr (.inr (.inr rfl))

theorem isL7 {w m : Nat} (hw : IsW w) (hm : m < 128 / w) : isL (w : Int) (m : Int) = true := by
  unfold isL
  rw [(isW_iff w).2 ⟨w, rfl, hw⟩]
  rcases hw with rfl | rfl | rfl | rfl <;> simp at hm ⊢ <;> omega
theorem get_at {w m : Nat} (hw : IsW w) (hm : m < 128 / w) (v : Nat × Nat) (hv : Vok v) (W : World) (hT : WTabs W) :
    Calls Tryd.prog 24 #[vecV v, .int .i64 (w : Int), .int .i64 (m : Int)] W fun e W' => e = .returned (.tuple #[.int .u64 (laneN v w m : Int), .int .i64 0]) ∧ Below W.heap.size W W' := by
  have := lget_calls v hv (w : Int) (m : Int) W hT
  unfold getV pairV at this
  rw [isL7 hw hm] at this
  simpa using this
end Go.Proofs.YtpeckiaimellmaaDoor
