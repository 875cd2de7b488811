/-
  ConvsCuts, ConvsFloats, ConvsWidths.
-/
import Derived.Test.YtfahogbiekmdfaaConvLaw1
import Derived.Test.YtfahogbiekmdfaaConvLaw2
set_option linter.unusedVariables false
set_option linter.unusedSimpArgs false
namespace Go.Proofs.Ytfahogbiekmdfaa
open Go.RowKit Flo

section
variable {W0 : World}
theorem rcut_from (fr to : Int) (sg : Bool) (a : Nat) (ha : a < 2 ^ 64) {x e : Nat} (hx : cutF fr to sg a = (x, e)) (W : World) (hB : Below W0.heap.size W0 W) :
    Calls Try.prog 10 #[.int .i64 fr, .int .i64 to, .bool sg, .int .u64 (a : Int)] W fun r W' => r = .returned (.tuple #[.int .u64 (x : Int), .int .i64 (e : Int)]) ∧ Below W0.heap.size W0 W' := by
  have h := rCut_calls fr to sg a ha W
  rw [hx] at h
  exact h.mono fun e W' ⟨he, hk⟩ => ⟨he, below_eq hB hk⟩
theorem rheld_from (fr to : Int) (sg : Bool) (a : Nat) (ha : a < 2 ^ 64) {x e : Nat} (hx : heldF fr to sg a = (x, e)) (W : World) (hB : Below W0.heap.size W0 W) :
    Calls Try.prog 12 #[.int .i64 fr, .int .i64 to, .bool sg, .int .u64 (a : Int)] W fun r W' => r = .returned (.tuple #[.int .u64 (x : Int), .int .i64 (e : Int)]) ∧ Below W0.heap.size W0 W' := by
  have h := rCutHeld_calls fr to sg a ha W
  rw [hx] at h
  exact h.mono fun e W' ⟨he, hk⟩ => ⟨he, below_eq hB hk⟩
theorem rfloat_from (fr to : Int) (sg : Bool) (a : Nat) (ha : a < 2 ^ 64) {x e : Nat} (hx : fltF fr to sg a = (x, e)) (W : World) (hB : Below W0.heap.size W0 W) :
    Calls Try.prog 15 #[.int .i64 fr, .int .i64 to, .bool sg, .int .u64 (a : Int)] W fun r W' => r = .returned (.tuple #[.int .u64 (x : Int), .int .i64 (e : Int)]) ∧ Below W0.heap.size W0 W' := by
  have h := rFloat_calls fr to sg a ha W
  rw [hx] at h
  exact h.mono fun e W' ⟨he, hk⟩ => ⟨he, below_eq hB hk⟩
theorem rprom_from (a : Nat) (ha : a < 2 ^ 64) {x e : Nat} (hx : promF a = (x, e)) (W : World) (hB : Below W0.heap.size W0 W) :
    Calls Try.prog 17 #[.int .u64 (a : Int)] W fun r W' => r = .returned (.tuple #[.int .u64 (x : Int), .int .i64 (e : Int)]) ∧ Below W0.heap.size W0 W' := by
  have h := rPromote_calls a ha W
  rw [hx] at h
  exact h.mono fun e W' ⟨he, hk⟩ => ⟨he, below_eq hB hk⟩
theorem rdem_from (a : Nat) (ha : a < 2 ^ 64) {x : Nat} (hx : demN a = x) (W : World) (hB : Below W0.heap.size W0 W) :
    Calls Try.prog 19 #[.int .u64 (a : Int)] W fun r W' => r = .returned (.tuple #[.int .u64 (x : Int), .int .i64 0]) ∧ Below W0.heap.size W0 W' := by
  have h := rDemote_calls a ha W
  rw [hx] at h
  exact h.mono fun e W' ⟨he, hk⟩ => ⟨he, below_eq hB hk⟩
end

set_option maxRecDepth 100000 in
set_option maxHeartbeats 1000000 in
theorem ConvsCuts_calls (fr to : Int) (sg : Bool) (a : Int) (w3 : (Lit.int .u64 a).wf = true) (W : World) :
    Calls Try.prog 3 #[.int .i64 fr, .int .i64 to, .bool sg, .int .u64 a] W fun e W' => e = .returned (.bool true) ∧ Below W.heap.size W W' := by
  obtain ⟨a, rfl, ha⟩ := wf64' w3
  cases hc : cutF fr to sg a with
  | mk x e =>
  cases hh : heldF fr to sg a with
  | mk y f =>
  have C1 := hide (@cut_from W fr to sg a ha _ _ hc)
  have C2 := hide (@rcut_from W fr to sg a ha _ _ hc)
  have C3 := hide (@held_from W fr to sg a ha _ _ hh)
  have C4 := hide (@rheld_from W fr to sg a ha _ _ hh)
  have K := hide (@works_calls W)
  have HB := hide (Below.refl W.heap.size W)
  clear w3 ha hc hh
  go_enter Try.func3, Try.ntmps3
  go_wp2_with (first | ((with_reducible refine (C1.out _ HB.out).mono ?_); rintro e w1 ⟨rfl, hb⟩; have HB := hide hb; clear hb) | ((with_reducible refine (C2.out _ HB.out).mono ?_); rintro e w1 ⟨rfl, hb⟩; have HB := hide hb; clear hb) | ((with_reducible refine (C3.out _ HB.out).mono ?_); rintro e w1 ⟨rfl, hb⟩; have HB := hide hb; clear hb) | ((with_reducible refine (C4.out _ HB.out).mono ?_); rintro e w1 ⟨rfl, hb⟩; have HB := hide hb; clear hb) | ((with_reducible refine (K.out _ HB.out).mono ?_); rintro e w1 ⟨rfl, hb⟩; have HB := hide hb; clear hb))
  go_ret
  exact ⟨rfl, HB.out⟩

set_option maxRecDepth 100000 in
set_option maxHeartbeats 1000000 in
theorem ConvsFloats_calls (fr to : Int) (sg : Bool) (a : Int) (w3 : (Lit.int .u64 a).wf = true) (W : World) :
    Calls Try.prog 4 #[.int .i64 fr, .int .i64 to, .bool sg, .int .u64 a] W fun e W' => e = .returned (.bool true) ∧ Below W.heap.size W W' := by
  obtain ⟨a, rfl, ha⟩ := wf64' w3
  cases hc : fltF fr to sg a with
  | mk x e =>
  have C1 := hide (@float_from W fr to sg a ha _ _ hc)
  have C2 := hide (@rfloat_from W fr to sg a ha _ _ hc)
  have K := hide (@works_calls W)
  have HB := hide (Below.refl W.heap.size W)
  clear w3 ha hc
  go_enter Try.func4, Try.ntmps4
  go_wp2_with (first | ((with_reducible refine (C1.out _ HB.out).mono ?_); rintro e w1 ⟨rfl, hb⟩; have HB := hide hb; clear hb) | ((with_reducible refine (C2.out _ HB.out).mono ?_); rintro e w1 ⟨rfl, hb⟩; have HB := hide hb; clear hb) | ((with_reducible refine (K.out _ HB.out).mono ?_); rintro e w1 ⟨rfl, hb⟩; have HB := hide hb; clear hb))
  go_ret
  exact ⟨rfl, HB.out⟩

set_option maxRecDepth 100000 in
set_option maxHeartbeats 1000000 in
theorem ConvsWidths_calls (a b : Int) (w0 : (Lit.int .u64 a).wf = true) (w1 : (Lit.int .u64 b).wf = true) (W : World) :
    Calls Try.prog 5 #[.int .u64 a, .int .u64 b] W fun e W' => e = .returned (.bool true) ∧ Below W.heap.size W W' := by
  obtain ⟨a, rfl, ha⟩ := wf64' w0
  obtain ⟨b, rfl, hb⟩ := wf64' w1
  cases hc : promF a with
  | mk x e =>
  have C1 := hide (@prom_from W a ha _ _ hc)
  have C2 := hide (@rprom_from W a ha _ _ hc)
  have C3 := hide (@dem_from W b hb _ rfl)
  have C4 := hide (@rdem_from W b hb _ rfl)
  have K := hide (@works_calls W)
  have HB := hide (Below.refl W.heap.size W)
  clear w0 w1 ha hb hc
  generalize demN b = y at *
  go_enter Try.func5, Try.ntmps5
  go_wp2_with (first | ((with_reducible refine (C1.out _ HB.out).mono ?_); rintro e w1 ⟨rfl, hb⟩; have HB := hide hb; clear hb) | ((with_reducible refine (C2.out _ HB.out).mono ?_); rintro e w1 ⟨rfl, hb⟩; have HB := hide hb; clear hb) | ((with_reducible refine (C3.out _ HB.out).mono ?_); rintro e w1 ⟨rfl, hb⟩; have HB := hide hb; clear hb) | ((with_reducible refine (C4.out _ HB.out).mono ?_); rintro e w1 ⟨rfl, hb⟩; have HB := hide hb; clear hb) | ((with_reducible refine (K.out _ HB.out).mono ?_); rintro e w1 ⟨rfl, hb⟩; have HB := hide hb; clear hb))
  go_ret
  exact ⟨rfl, HB.out⟩
end Go.Proofs.Ytfahogbiekmdfaa
