/-
  The document's divided, held, oneOf, q15.
-/
import Derived.Test.YtfahogbiekmdfabDoorZIntsTwo
import Derived.Test.YtfahogbiekmdfabDoorZIntsRefs
set_option linter.unusedVariables false
set_option linter.unusedSimpArgs false
namespace Go.Proofs.YtfahogbiekmdfabDoor.Z
open Go.RowKit Ints

theorem rem_neg1 {w : Nat} {a b : Int} (h : wo w b = -1) : remS w a b = 0 := by
  unfold remS
  rw [h, Int.tmod_neg, Int.tmod_one]
  unfold cutI
  simp

theorem addH_of (w : Nat) (a b z : Int) (h : z = min (max (wo w a + wo w b) (lo w)) (hi w)) : cutI w z = addH w a b := by rw [h]; rfl
theorem subH_of (w : Nat) (a b z : Int) (h : z = min (max (wo w a - wo w b) (lo w)) (hi w)) : cutI w z = subH w a b := by rw [h]; rfl

theorem cut_wo {w : Nat} (hw : IsW w) {a : Int} (ha : Of w a) : cutI w (wo w a) = a := by
  obtain ⟨h0, h1⟩ := ha
  rcases hw with rfl | rfl | rfl | rfl <;> simp only [wo, cutI, Nat.reduceSub, Int.reducePow] at h1 ⊢ <;> split <;> omega

end Go.Proofs.YtfahogbiekmdfabDoor.Z
