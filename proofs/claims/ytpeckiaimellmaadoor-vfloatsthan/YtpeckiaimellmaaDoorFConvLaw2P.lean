/-
  convs, as the laws call it, from a base world; works.
-/
import Derived.Test.YtpeckiaimellmaaDoorFConvCodeP
import Derived.DataShut
set_option linter.unusedVariables false
set_option linter.unusedSimpArgs false
namespace Go.Proofs.YtpeckiaimellmaaDoor.F.C
open Go.RowKit Flo

theorem wf8' {n : Int} (h : (Lit.int .u8 n).wf = true) : ∃ m : Nat, n = (m : Int) := ⟨n.toNat, by have : 0 ≤ n := ((Lit.wf_int_iff _ _).1 h).1; omega⟩
theorem wf32' {n : Int} (h : (Lit.int .u32 n).wf = true) : ∃ m : Nat, n = (m : Int) ∧ m < 2 ^ 32 := by
  have h0 : 0 ≤ n := ((Lit.wf_int_iff _ _).1 h).1
  have h1 : n ≤ 4294967295 := ((Lit.wf_int_iff _ _).1 h).2
  exact ⟨n.toNat, by omega, by omega⟩
theorem wf64' {n : Int} (h : (Lit.int .u64 n).wf = true) : ∃ m : Nat, n = (m : Int) ∧ m < 2 ^ 64 := by
  have h0 : 0 ≤ n := ((Lit.wf_int_iff _ _).1 h).1
  have h1 : n ≤ 18446744073709551615 := ((Lit.wf_int_iff _ _).1 h).2
  exact ⟨n.toNat, by omega, by omega⟩
theorem below_eq {W0 W W' : World} (h : Below W0.heap.size W0 W) (e : W' = W) : Below W0.heap.size W0 W' := by rw [e]; exact h

section
variable {W0 : World}
theorem held_from (fr to : Int) (sg : Bool) (a : Nat) (ha : a < 2 ^ 64) {x e : Nat} (hx : heldF fr to sg a = (x, e)) (W : World) (hB : Below W0.heap.size W0 W) :
    Calls Tryd.prog 43 #[.int .i64 fr, .int .i64 to, .bool sg, .int .u64 (a : Int)] W fun r W' => r = .returned (.tuple #[.int .u64 (x : Int), .int .i64 (e : Int)]) ∧ Below W0.heap.size W0 W' := by
  have h := CutHeld_calls fr to sg a ha W
  rw [hx] at h
  exact h.mono fun e W' ⟨he, hk⟩ => ⟨he, below_two hB hk⟩
theorem float_from (fr to : Int) (sg : Bool) (a : Nat) (ha : a < 2 ^ 64) {x e : Nat} (hx : fltF fr to sg a = (x, e)) (W : World) (hB : Below W0.heap.size W0 W) :
    Calls Tryd.prog 25 #[.int .i64 fr, .int .i64 to, .bool sg, .int .u64 (a : Int)] W fun r W' => r = .returned (.tuple #[.int .u64 (x : Int), .int .i64 (e : Int)]) ∧ Below W0.heap.size W0 W' := by
  have h := Float_calls fr to sg a ha W
  rw [hx] at h
  exact h.mono fun e W' ⟨he, hk⟩ => ⟨he, below_eq hB hk⟩
theorem prom_from (a : Nat) (ha : a < 2 ^ 64) {x e : Nat} (hx : promF a = (x, e)) (W : World) (hB : Below W0.heap.size W0 W) :
    Calls Tryd.prog 47 #[.int .u64 (a : Int)] W fun r W' => r = .returned (.tuple #[.int .u64 (x : Int), .int .i64 (e : Int)]) ∧ Below W0.heap.size W0 W' := by
  have h := Promote_calls a ha W
  rw [hx] at h
  exact h.mono fun e W' ⟨he, hk⟩ => ⟨he, below_two hB hk⟩
theorem dem_from (a : Nat) (ha : a < 2 ^ 64) {x : Nat} (hx : demN a = x) (W : World) (hB : Below W0.heap.size W0 W) :
    Calls Tryd.prog 49 #[.int .u64 (a : Int)] W fun r W' => r = .returned (.tuple #[.int .u64 (x : Int), .int .i64 0]) ∧ Below W0.heap.size W0 W' := by
  have h := Demote_calls a ha W
  rw [hx] at h
  exact h.mono fun e W' ⟨he, hk⟩ => ⟨he, below_eq hB hk⟩
end

theorem w1_is : cutF 32 32 true 3212836864 = (4294967295, 0) := by decide +kernel
theorem w2_is : demN 4607182419068452864 = 1065353216 := by decide +kernel

end Go.Proofs.YtpeckiaimellmaaDoor.F.C
