/-
  width, of, None as the laws call them; ConvsHeld, ConvsBack, ConvsWhole.
-/
import Derived.Test.YtpeckiaimellmaaDoorFConvLaw2P
import Derived.Test.YtpeckiaimellmaaDoorFConvFactsP
import Derived.Test.YtpeckiaimellmaaDoorFFloThanP
set_option linter.unusedVariables false
set_option linter.unusedSimpArgs false
namespace Go.Proofs.YtpeckiaimellmaaDoor.F.C
open Go.RowKit Flo

def wd (n : Nat) : Nat := if n % 2 = 0 then 32 else 64
theorem wd_isW (n : Nat) : IsW (wd n) := by
  unfold wd IsW
  split <;> simp
theorem cut_lt (w a : Nat) : a % 2 ^ w < 2 ^ w := Nat.mod_lt _ (Nat.two_pow_pos w)

theorem none_from {W0 : World} {w a : Nat} (hw : IsW w) (ha : a < 2 ^ w) {x : Bool} (hx : na w a = x) (W : World) (hB : Below W0.heap.size W0 W) :
    Calls Tryd.prog 103 #[.int .i64 (w : Int), .int .u64 (a : Int)] W fun r W' => r = .returned (.tuple #[.bool x, .int .i64 0]) ∧ Below W0.heap.size W0 W' := by
  have h := None_calls (w : Int) a (lt64 hw ha) W
  have ok : okW (w : Int) a = true := by
    rcases hw with rfl | rfl
    · simp [okW]; omega
    · simp [okW]
  rw [if_pos ok, show ((w : Int)).toNat = w from Int.toNat_natCast w, hx] at h
  exact h.mono fun e W' ⟨he, hk⟩ => ⟨he, below_two hB hk⟩

theorem ok_of {fr to a : Nat} (hf : IsW fr) (ht : IsW to) (ha : a < 2 ^ fr) : okC (fr : Int) (to : Int) a = true := by
  rcases hf with rfl | rfl <;> rcases ht with rfl | rfl <;> simp [okC, okW, isW] <;> omega
theorem cutF_of {fr to a : Nat} {sg : Bool} (hf : IsW fr) (ht : IsW to) (ha : a < 2 ^ fr) : cutF (fr : Int) (to : Int) sg a = trapN (cutN fr to sg a) := by
  unfold cutF
  rw [if_pos (ok_of hf ht ha)]
  simp
theorem heldF_of {fr to a : Nat} {sg : Bool} (hf : IsW fr) (ht : IsW to) (ha : a < 2 ^ fr) : heldF (fr : Int) (to : Int) sg a = ((cutN fr to sg a).1, 0) := by
  unfold heldF
  rw [if_pos (ok_of hf ht ha)]
  simp
theorem fltF_of {fr to a : Nat} {sg : Bool} (hf : IsW fr) (ht : IsW to) (ha : a < 2 ^ fr) : fltF (fr : Int) (to : Int) sg a = (fltN fr to sg a, 0) := by
  unfold fltF
  rw [if_pos (ok_of hf ht ha)]
  simp
end Go.Proofs.YtpeckiaimellmaaDoor.F.C
