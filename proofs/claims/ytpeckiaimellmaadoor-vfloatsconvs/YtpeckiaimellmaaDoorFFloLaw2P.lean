/-
  width, of, two, one, than, none, as the laws call them (genflo.py wrote it).
-/
import Derived.Test.YtpeckiaimellmaaDoorFFloLaw1P
set_option linter.unusedVariables false
set_option linter.unusedSimpArgs false
namespace Go.Proofs.YtpeckiaimellmaaDoor.F
open Go.RowKit Flo

def wd (n : Nat) : Nat := if n % 2 = 0 then 32 else 64
theorem wd_isW (n : Nat) : IsW (wd n) := by
  unfold wd IsW
  split <;> simp
theorem cut_lt (w a : Nat) : a % 2 ^ w < 2 ^ w := Nat.mod_lt _ (Nat.two_pow_pos w)

theorem Two_from {W0 : World} {w a b : Nat} (hw : IsW w) (op : Nat) {o : Int} (ho : o = (op : Int)) (ha : a < 2 ^ w) (hb : b < 2 ^ w) {x e : Nat} (hx : two op w a b = (x, e)) (W : World) (hB : Below W0.heap.size W0 W) :
    Calls Tryd.prog 28 #[.int .u8 o, .int .i64 (w : Int), .int .u64 (a : Int), .int .u64 (b : Int)] W fun r W' => r = .returned (.tuple #[.int .u64 (x : Int), .int .i64 (e : Int)]) ∧ Below W0.heap.size W0 W' := by
  subst ho
  have h := Two_calls hw op ha hb W
  rw [hx] at h
  exact h.mono fun e W' ⟨he, hk⟩ => ⟨he, below_two hB hk⟩
theorem One_from {W0 : World} {w a : Nat} (hw : IsW w) (op : Nat) {o : Int} (ho : o = (op : Int)) (ha : a < 2 ^ w) {x e : Nat} (hx : one op w a = (x, e)) (W : World) (hB : Below W0.heap.size W0 W) :
    Calls Tryd.prog 36 #[.int .u8 o, .int .i64 (w : Int), .int .u64 (a : Int)] W fun r W' => r = .returned (.tuple #[.int .u64 (x : Int), .int .i64 (e : Int)]) ∧ Below W0.heap.size W0 W' := by
  subst ho
  have h := One_calls hw op ha W
  rw [hx] at h
  exact h.mono fun e W' ⟨he, hk⟩ => ⟨he, below_two hB hk⟩
theorem Than_from {W0 : World} {w a b : Nat} (hw : IsW w) (op : Nat) {o : Int} (ho : o = (op : Int)) (ha : a < 2 ^ w) (hb : b < 2 ^ w) {x : Bool} {e : Nat} (hx : than op w a b = (x, e)) (W : World) (hB : Below W0.heap.size W0 W) :
    Calls Tryd.prog 39 #[.int .u8 o, .int .i64 (w : Int), .int .u64 (a : Int), .int .u64 (b : Int)] W fun r W' => r = .returned (.tuple #[.bool x, .int .i64 (e : Int)]) ∧ Below W0.heap.size W0 W' := by
  subst ho
  have h := Than_calls hw op ha hb W
  rw [hx] at h
  exact h.mono fun e W' ⟨he, hk⟩ => ⟨he, below_two hB hk⟩
theorem None_from {W0 : World} {w a : Nat} (hw : IsW w) (ha : a < 2 ^ w) {x : Bool} (hx : na w a = x) (W : World) (hB : Below W0.heap.size W0 W) :
    Calls Tryd.prog 103 #[.int .i64 (w : Int), .int .u64 (a : Int)] W fun r W' => r = .returned (.tuple #[.bool x, .int .i64 0]) ∧ Below W0.heap.size W0 W' := by
  have h := None_calls (w : Int) a (lt64 hw ha) W
  rw [okW_of hw ha, if_pos rfl, show ((w : Int)).toNat = w from Int.toNat_natCast w, hx] at h
  exact h.mono fun e W' ⟨he, hk⟩ => ⟨he, below_two hB hk⟩

end Go.Proofs.YtpeckiaimellmaaDoor.F
