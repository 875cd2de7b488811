/-
  ConvsHeld, ConvsBack, ConvsWhole (genlaw5.py wrote it).
-/
import Derived.Test.YtfahogbiekmdfaaConvLaw4
set_option linter.unusedVariables false
set_option linter.unusedSimpArgs false
namespace Go.Proofs.Ytfahogbiekmdfaa
open Go.RowKit Flo

def isVal (p : Bool) (r lo hi : Nat) : Bool := p && (r == lo || r == hi)

set_option maxRecDepth 100000 in
set_option maxHeartbeats 1000000 in
theorem held_fits32 {W0 : World} {f n m a b r : Nat} {sg : Bool} (A1 : Hide (∀ W, Calls Try.prog 20 #[.int .u8 (n : Int)] W fun e W' => e = .returned (.int .i64 (f : Int)) ∧ W' = W)) (A2 : Hide (∀ W, Calls Try.prog 20 #[.int .u8 (m : Int)] W fun e W' => e = .returned (.int .i64 32) ∧ W' = W))
    (O1 : Hide (∀ W, Calls Try.prog 21 #[.int .i64 (f : Int), .int .u64 (a : Int)] W fun e W' => e = .returned (.int .u64 (b : Int)) ∧ W' = W))
    (C1 : Hide (∀ W, Below W0.heap.size W0 W → Calls Try.prog 9 #[.int .i64 (f : Int), .int .i64 32, .bool sg, .int .u64 (b : Int)] W fun e W' => e = .returned (.tuple #[.int .u64 (r : Int), .int .i64 0]) ∧ Below W0.heap.size W0 W'))
    (C2 : Hide (∀ W, Below W0.heap.size W0 W → Calls Try.prog 11 #[.int .i64 (f : Int), .int .i64 32, .bool sg, .int .u64 (b : Int)] W fun e W' => e = .returned (.tuple #[.int .u64 (r : Int), .int .i64 0]) ∧ Below W0.heap.size W0 W'))
    (K : Hide (∀ W, Below W0.heap.size W0 W → Calls Try.prog 13 #[] W fun e W' => e = .returned (.bool true) ∧ Below W0.heap.size W0 W')) (HB : Hide (Below W0.heap.size W0 W0)) :
    Calls Try.prog 6 #[.int .u8 (n : Int), .int .u8 (m : Int), .bool sg, .int .u64 (a : Int)] W0 fun e W' => e = .returned (.bool true) ∧ Below W0.heap.size W0 W' := by
  go_enter Try.func6, Try.ntmps6
  go_wp2_with (first | ((with_reducible refine (A1.out _).mono ?_); rintro e w1 ⟨rfl, rfl⟩) | ((with_reducible refine (A2.out _).mono ?_); rintro e w1 ⟨rfl, rfl⟩) | ((with_reducible refine (O1.out _).mono ?_); rintro e w1 ⟨rfl, rfl⟩) | ((with_reducible refine (C1.out _ HB.out).mono ?_); rintro e w1 ⟨rfl, hb⟩; have HB := hide hb; clear hb) | ((with_reducible refine (C2.out _ HB.out).mono ?_); rintro e w1 ⟨rfl, hb⟩; have HB := hide hb; clear hb) | ((with_reducible refine (K.out _ HB.out).mono ?_); rintro e w1 ⟨rfl, hb⟩; have HB := hide hb; clear hb))
  go_ret
  exact ⟨rfl, HB.out⟩

set_option maxRecDepth 100000 in
set_option maxHeartbeats 1000000 in
theorem held_false32n {W0 : World} {f n m a b : Nat} (A1 : Hide (∀ W, Calls Try.prog 20 #[.int .u8 (n : Int)] W fun e W' => e = .returned (.int .i64 (f : Int)) ∧ W' = W)) (A2 : Hide (∀ W, Calls Try.prog 20 #[.int .u8 (m : Int)] W fun e W' => e = .returned (.int .i64 32) ∧ W' = W))
    (O1 : Hide (∀ W, Calls Try.prog 21 #[.int .i64 (f : Int), .int .u64 (a : Int)] W fun e W' => e = .returned (.int .u64 (b : Int)) ∧ W' = W))
    (O2 : Hide (∀ W, Calls Try.prog 21 #[.int .i64 32, .int .u64 18446744073709551615] W fun e W' => e = .returned (.int .u64 4294967295) ∧ W' = W))
    (C1 : Hide (∀ W, Below W0.heap.size W0 W → Calls Try.prog 9 #[.int .i64 (f : Int), .int .i64 32, .bool false, .int .u64 (b : Int)] W fun e W' => e = .returned (.tuple #[.int .u64 0, .int .i64 6]) ∧ Below W0.heap.size W0 W'))
    (C2 : Hide (∀ W, Below W0.heap.size W0 W → Calls Try.prog 11 #[.int .i64 (f : Int), .int .i64 32, .bool false, .int .u64 (b : Int)] W fun e W' => e = .returned (.tuple #[.int .u64 0, .int .i64 0]) ∧ Below W0.heap.size W0 W'))
    (N : Hide (∀ W, Below W0.heap.size W0 W → Calls Try.prog 22 #[.int .i64 (f : Int), .int .u64 (b : Int)] W fun e W' => e = .returned (.tuple #[.bool true, .int .i64 0]) ∧ Below W0.heap.size W0 W'))
    (K : Hide (∀ W, Below W0.heap.size W0 W → Calls Try.prog 13 #[] W fun e W' => e = .returned (.bool true) ∧ Below W0.heap.size W0 W')) (HB : Hide (Below W0.heap.size W0 W0)) :
    Calls Try.prog 6 #[.int .u8 (n : Int), .int .u8 (m : Int), .bool false, .int .u64 (a : Int)] W0 fun e W' => e = .returned (.bool true) ∧ Below W0.heap.size W0 W' := by
  go_enter Try.func6, Try.ntmps6
  go_wp2_with (first | ((with_reducible refine (A1.out _).mono ?_); rintro e w1 ⟨rfl, rfl⟩) | ((with_reducible refine (A2.out _).mono ?_); rintro e w1 ⟨rfl, rfl⟩) | ((with_reducible refine (O1.out _).mono ?_); rintro e w1 ⟨rfl, rfl⟩) | ((with_reducible refine (O2.out _).mono ?_); rintro e w1 ⟨rfl, rfl⟩) | ((with_reducible refine (C1.out _ HB.out).mono ?_); rintro e w1 ⟨rfl, hb⟩; have HB := hide hb; clear hb) | ((with_reducible refine (C2.out _ HB.out).mono ?_); rintro e w1 ⟨rfl, hb⟩; have HB := hide hb; clear hb) | ((with_reducible refine (N.out _ HB.out).mono ?_); rintro e w1 ⟨rfl, hb⟩; have HB := hide hb; clear hb) | ((with_reducible refine (K.out _ HB.out).mono ?_); rintro e w1 ⟨rfl, hb⟩; have HB := hide hb; clear hb))
  go_ret
  exact ⟨rfl, HB.out⟩

set_option maxRecDepth 100000 in
set_option maxHeartbeats 1000000 in
theorem held_false32l {W0 : World} {f n m a b : Nat} (A1 : Hide (∀ W, Calls Try.prog 20 #[.int .u8 (n : Int)] W fun e W' => e = .returned (.int .i64 (f : Int)) ∧ W' = W)) (A2 : Hide (∀ W, Calls Try.prog 20 #[.int .u8 (m : Int)] W fun e W' => e = .returned (.int .i64 32) ∧ W' = W))
    (O1 : Hide (∀ W, Calls Try.prog 21 #[.int .i64 (f : Int), .int .u64 (a : Int)] W fun e W' => e = .returned (.int .u64 (b : Int)) ∧ W' = W))
    (O2 : Hide (∀ W, Calls Try.prog 21 #[.int .i64 32, .int .u64 18446744073709551615] W fun e W' => e = .returned (.int .u64 4294967295) ∧ W' = W))
    (C1 : Hide (∀ W, Below W0.heap.size W0 W → Calls Try.prog 9 #[.int .i64 (f : Int), .int .i64 32, .bool false, .int .u64 (b : Int)] W fun e W' => e = .returned (.tuple #[.int .u64 0, .int .i64 6]) ∧ Below W0.heap.size W0 W'))
    (C2 : Hide (∀ W, Below W0.heap.size W0 W → Calls Try.prog 11 #[.int .i64 (f : Int), .int .i64 32, .bool false, .int .u64 (b : Int)] W fun e W' => e = .returned (.tuple #[.int .u64 0, .int .i64 0]) ∧ Below W0.heap.size W0 W'))
    (N : Hide (∀ W, Below W0.heap.size W0 W → Calls Try.prog 22 #[.int .i64 (f : Int), .int .u64 (b : Int)] W fun e W' => e = .returned (.tuple #[.bool false, .int .i64 0]) ∧ Below W0.heap.size W0 W'))
    (K : Hide (∀ W, Below W0.heap.size W0 W → Calls Try.prog 13 #[] W fun e W' => e = .returned (.bool true) ∧ Below W0.heap.size W0 W')) (HB : Hide (Below W0.heap.size W0 W0)) :
    Calls Try.prog 6 #[.int .u8 (n : Int), .int .u8 (m : Int), .bool false, .int .u64 (a : Int)] W0 fun e W' => e = .returned (.bool true) ∧ Below W0.heap.size W0 W' := by
  go_enter Try.func6, Try.ntmps6
  go_wp2_with (first | ((with_reducible refine (A1.out _).mono ?_); rintro e w1 ⟨rfl, rfl⟩) | ((with_reducible refine (A2.out _).mono ?_); rintro e w1 ⟨rfl, rfl⟩) | ((with_reducible refine (O1.out _).mono ?_); rintro e w1 ⟨rfl, rfl⟩) | ((with_reducible refine (O2.out _).mono ?_); rintro e w1 ⟨rfl, rfl⟩) | ((with_reducible refine (C1.out _ HB.out).mono ?_); rintro e w1 ⟨rfl, hb⟩; have HB := hide hb; clear hb) | ((with_reducible refine (C2.out _ HB.out).mono ?_); rintro e w1 ⟨rfl, hb⟩; have HB := hide hb; clear hb) | ((with_reducible refine (N.out _ HB.out).mono ?_); rintro e w1 ⟨rfl, hb⟩; have HB := hide hb; clear hb) | ((with_reducible refine (K.out _ HB.out).mono ?_); rintro e w1 ⟨rfl, hb⟩; have HB := hide hb; clear hb))
  go_ret
  exact ⟨rfl, HB.out⟩

set_option maxRecDepth 100000 in
set_option maxHeartbeats 1000000 in
theorem held_false32h {W0 : World} {f n m a b : Nat} (A1 : Hide (∀ W, Calls Try.prog 20 #[.int .u8 (n : Int)] W fun e W' => e = .returned (.int .i64 (f : Int)) ∧ W' = W)) (A2 : Hide (∀ W, Calls Try.prog 20 #[.int .u8 (m : Int)] W fun e W' => e = .returned (.int .i64 32) ∧ W' = W))
    (O1 : Hide (∀ W, Calls Try.prog 21 #[.int .i64 (f : Int), .int .u64 (a : Int)] W fun e W' => e = .returned (.int .u64 (b : Int)) ∧ W' = W))
    (O2 : Hide (∀ W, Calls Try.prog 21 #[.int .i64 32, .int .u64 18446744073709551615] W fun e W' => e = .returned (.int .u64 4294967295) ∧ W' = W))
    (C1 : Hide (∀ W, Below W0.heap.size W0 W → Calls Try.prog 9 #[.int .i64 (f : Int), .int .i64 32, .bool false, .int .u64 (b : Int)] W fun e W' => e = .returned (.tuple #[.int .u64 0, .int .i64 6]) ∧ Below W0.heap.size W0 W'))
    (C2 : Hide (∀ W, Below W0.heap.size W0 W → Calls Try.prog 11 #[.int .i64 (f : Int), .int .i64 32, .bool false, .int .u64 (b : Int)] W fun e W' => e = .returned (.tuple #[.int .u64 4294967295, .int .i64 0]) ∧ Below W0.heap.size W0 W'))
    (N : Hide (∀ W, Below W0.heap.size W0 W → Calls Try.prog 22 #[.int .i64 (f : Int), .int .u64 (b : Int)] W fun e W' => e = .returned (.tuple #[.bool false, .int .i64 0]) ∧ Below W0.heap.size W0 W'))
    (K : Hide (∀ W, Below W0.heap.size W0 W → Calls Try.prog 13 #[] W fun e W' => e = .returned (.bool true) ∧ Below W0.heap.size W0 W')) (HB : Hide (Below W0.heap.size W0 W0)) :
    Calls Try.prog 6 #[.int .u8 (n : Int), .int .u8 (m : Int), .bool false, .int .u64 (a : Int)] W0 fun e W' => e = .returned (.bool true) ∧ Below W0.heap.size W0 W' := by
  go_enter Try.func6, Try.ntmps6
  go_wp2_with (first | ((with_reducible refine (A1.out _).mono ?_); rintro e w1 ⟨rfl, rfl⟩) | ((with_reducible refine (A2.out _).mono ?_); rintro e w1 ⟨rfl, rfl⟩) | ((with_reducible refine (O1.out _).mono ?_); rintro e w1 ⟨rfl, rfl⟩) | ((with_reducible refine (O2.out _).mono ?_); rintro e w1 ⟨rfl, rfl⟩) | ((with_reducible refine (C1.out _ HB.out).mono ?_); rintro e w1 ⟨rfl, hb⟩; have HB := hide hb; clear hb) | ((with_reducible refine (C2.out _ HB.out).mono ?_); rintro e w1 ⟨rfl, hb⟩; have HB := hide hb; clear hb) | ((with_reducible refine (N.out _ HB.out).mono ?_); rintro e w1 ⟨rfl, hb⟩; have HB := hide hb; clear hb) | ((with_reducible refine (K.out _ HB.out).mono ?_); rintro e w1 ⟨rfl, hb⟩; have HB := hide hb; clear hb))
  go_ret
  exact ⟨rfl, HB.out⟩

set_option maxRecDepth 100000 in
set_option maxHeartbeats 1000000 in
theorem held_true32n {W0 : World} {f n m a b : Nat} (A1 : Hide (∀ W, Calls Try.prog 20 #[.int .u8 (n : Int)] W fun e W' => e = .returned (.int .i64 (f : Int)) ∧ W' = W)) (A2 : Hide (∀ W, Calls Try.prog 20 #[.int .u8 (m : Int)] W fun e W' => e = .returned (.int .i64 32) ∧ W' = W))
    (O1 : Hide (∀ W, Calls Try.prog 21 #[.int .i64 (f : Int), .int .u64 (a : Int)] W fun e W' => e = .returned (.int .u64 (b : Int)) ∧ W' = W))
    (O2 : Hide (∀ W, Calls Try.prog 21 #[.int .i64 32, .int .u64 18446744073709551615] W fun e W' => e = .returned (.int .u64 4294967295) ∧ W' = W))
    (C1 : Hide (∀ W, Below W0.heap.size W0 W → Calls Try.prog 9 #[.int .i64 (f : Int), .int .i64 32, .bool true, .int .u64 (b : Int)] W fun e W' => e = .returned (.tuple #[.int .u64 0, .int .i64 6]) ∧ Below W0.heap.size W0 W'))
    (C2 : Hide (∀ W, Below W0.heap.size W0 W → Calls Try.prog 11 #[.int .i64 (f : Int), .int .i64 32, .bool true, .int .u64 (b : Int)] W fun e W' => e = .returned (.tuple #[.int .u64 0, .int .i64 0]) ∧ Below W0.heap.size W0 W'))
    (N : Hide (∀ W, Below W0.heap.size W0 W → Calls Try.prog 22 #[.int .i64 (f : Int), .int .u64 (b : Int)] W fun e W' => e = .returned (.tuple #[.bool true, .int .i64 0]) ∧ Below W0.heap.size W0 W'))
    (K : Hide (∀ W, Below W0.heap.size W0 W → Calls Try.prog 13 #[] W fun e W' => e = .returned (.bool true) ∧ Below W0.heap.size W0 W')) (HB : Hide (Below W0.heap.size W0 W0)) :
    Calls Try.prog 6 #[.int .u8 (n : Int), .int .u8 (m : Int), .bool true, .int .u64 (a : Int)] W0 fun e W' => e = .returned (.bool true) ∧ Below W0.heap.size W0 W' := by
  go_enter Try.func6, Try.ntmps6
  go_wp2_with (first | ((with_reducible refine (A1.out _).mono ?_); rintro e w1 ⟨rfl, rfl⟩) | ((with_reducible refine (A2.out _).mono ?_); rintro e w1 ⟨rfl, rfl⟩) | ((with_reducible refine (O1.out _).mono ?_); rintro e w1 ⟨rfl, rfl⟩) | ((with_reducible refine (O2.out _).mono ?_); rintro e w1 ⟨rfl, rfl⟩) | ((with_reducible refine (C1.out _ HB.out).mono ?_); rintro e w1 ⟨rfl, hb⟩; have HB := hide hb; clear hb) | ((with_reducible refine (C2.out _ HB.out).mono ?_); rintro e w1 ⟨rfl, hb⟩; have HB := hide hb; clear hb) | ((with_reducible refine (N.out _ HB.out).mono ?_); rintro e w1 ⟨rfl, hb⟩; have HB := hide hb; clear hb) | ((with_reducible refine (K.out _ HB.out).mono ?_); rintro e w1 ⟨rfl, hb⟩; have HB := hide hb; clear hb))
  go_ret
  exact ⟨rfl, HB.out⟩

set_option maxRecDepth 100000 in
set_option maxHeartbeats 1000000 in
theorem held_true32l {W0 : World} {f n m a b : Nat} (A1 : Hide (∀ W, Calls Try.prog 20 #[.int .u8 (n : Int)] W fun e W' => e = .returned (.int .i64 (f : Int)) ∧ W' = W)) (A2 : Hide (∀ W, Calls Try.prog 20 #[.int .u8 (m : Int)] W fun e W' => e = .returned (.int .i64 32) ∧ W' = W))
    (O1 : Hide (∀ W, Calls Try.prog 21 #[.int .i64 (f : Int), .int .u64 (a : Int)] W fun e W' => e = .returned (.int .u64 (b : Int)) ∧ W' = W))
    (O2 : Hide (∀ W, Calls Try.prog 21 #[.int .i64 32, .int .u64 18446744073709551615] W fun e W' => e = .returned (.int .u64 4294967295) ∧ W' = W))
    (C1 : Hide (∀ W, Below W0.heap.size W0 W → Calls Try.prog 9 #[.int .i64 (f : Int), .int .i64 32, .bool true, .int .u64 (b : Int)] W fun e W' => e = .returned (.tuple #[.int .u64 0, .int .i64 6]) ∧ Below W0.heap.size W0 W'))
    (C2 : Hide (∀ W, Below W0.heap.size W0 W → Calls Try.prog 11 #[.int .i64 (f : Int), .int .i64 32, .bool true, .int .u64 (b : Int)] W fun e W' => e = .returned (.tuple #[.int .u64 2147483648, .int .i64 0]) ∧ Below W0.heap.size W0 W'))
    (N : Hide (∀ W, Below W0.heap.size W0 W → Calls Try.prog 22 #[.int .i64 (f : Int), .int .u64 (b : Int)] W fun e W' => e = .returned (.tuple #[.bool false, .int .i64 0]) ∧ Below W0.heap.size W0 W'))
    (K : Hide (∀ W, Below W0.heap.size W0 W → Calls Try.prog 13 #[] W fun e W' => e = .returned (.bool true) ∧ Below W0.heap.size W0 W')) (HB : Hide (Below W0.heap.size W0 W0)) :
    Calls Try.prog 6 #[.int .u8 (n : Int), .int .u8 (m : Int), .bool true, .int .u64 (a : Int)] W0 fun e W' => e = .returned (.bool true) ∧ Below W0.heap.size W0 W' := by
  go_enter Try.func6, Try.ntmps6
  go_wp2_with (first | ((with_reducible refine (A1.out _).mono ?_); rintro e w1 ⟨rfl, rfl⟩) | ((with_reducible refine (A2.out _).mono ?_); rintro e w1 ⟨rfl, rfl⟩) | ((with_reducible refine (O1.out _).mono ?_); rintro e w1 ⟨rfl, rfl⟩) | ((with_reducible refine (O2.out _).mono ?_); rintro e w1 ⟨rfl, rfl⟩) | ((with_reducible refine (C1.out _ HB.out).mono ?_); rintro e w1 ⟨rfl, hb⟩; have HB := hide hb; clear hb) | ((with_reducible refine (C2.out _ HB.out).mono ?_); rintro e w1 ⟨rfl, hb⟩; have HB := hide hb; clear hb) | ((with_reducible refine (N.out _ HB.out).mono ?_); rintro e w1 ⟨rfl, hb⟩; have HB := hide hb; clear hb) | ((with_reducible refine (K.out _ HB.out).mono ?_); rintro e w1 ⟨rfl, hb⟩; have HB := hide hb; clear hb))
  go_ret
  exact ⟨rfl, HB.out⟩

set_option maxRecDepth 100000 in
set_option maxHeartbeats 1000000 in
theorem held_true32h {W0 : World} {f n m a b : Nat} (A1 : Hide (∀ W, Calls Try.prog 20 #[.int .u8 (n : Int)] W fun e W' => e = .returned (.int .i64 (f : Int)) ∧ W' = W)) (A2 : Hide (∀ W, Calls Try.prog 20 #[.int .u8 (m : Int)] W fun e W' => e = .returned (.int .i64 32) ∧ W' = W))
    (O1 : Hide (∀ W, Calls Try.prog 21 #[.int .i64 (f : Int), .int .u64 (a : Int)] W fun e W' => e = .returned (.int .u64 (b : Int)) ∧ W' = W))
    (O2 : Hide (∀ W, Calls Try.prog 21 #[.int .i64 32, .int .u64 18446744073709551615] W fun e W' => e = .returned (.int .u64 4294967295) ∧ W' = W))
    (C1 : Hide (∀ W, Below W0.heap.size W0 W → Calls Try.prog 9 #[.int .i64 (f : Int), .int .i64 32, .bool true, .int .u64 (b : Int)] W fun e W' => e = .returned (.tuple #[.int .u64 0, .int .i64 6]) ∧ Below W0.heap.size W0 W'))
    (C2 : Hide (∀ W, Below W0.heap.size W0 W → Calls Try.prog 11 #[.int .i64 (f : Int), .int .i64 32, .bool true, .int .u64 (b : Int)] W fun e W' => e = .returned (.tuple #[.int .u64 2147483647, .int .i64 0]) ∧ Below W0.heap.size W0 W'))
    (N : Hide (∀ W, Below W0.heap.size W0 W → Calls Try.prog 22 #[.int .i64 (f : Int), .int .u64 (b : Int)] W fun e W' => e = .returned (.tuple #[.bool false, .int .i64 0]) ∧ Below W0.heap.size W0 W'))
    (K : Hide (∀ W, Below W0.heap.size W0 W → Calls Try.prog 13 #[] W fun e W' => e = .returned (.bool true) ∧ Below W0.heap.size W0 W')) (HB : Hide (Below W0.heap.size W0 W0)) :
    Calls Try.prog 6 #[.int .u8 (n : Int), .int .u8 (m : Int), .bool true, .int .u64 (a : Int)] W0 fun e W' => e = .returned (.bool true) ∧ Below W0.heap.size W0 W' := by
  go_enter Try.func6, Try.ntmps6
  go_wp2_with (first | ((with_reducible refine (A1.out _).mono ?_); rintro e w1 ⟨rfl, rfl⟩) | ((with_reducible refine (A2.out _).mono ?_); rintro e w1 ⟨rfl, rfl⟩) | ((with_reducible refine (O1.out _).mono ?_); rintro e w1 ⟨rfl, rfl⟩) | ((with_reducible refine (O2.out _).mono ?_); rintro e w1 ⟨rfl, rfl⟩) | ((with_reducible refine (C1.out _ HB.out).mono ?_); rintro e w1 ⟨rfl, hb⟩; have HB := hide hb; clear hb) | ((with_reducible refine (C2.out _ HB.out).mono ?_); rintro e w1 ⟨rfl, hb⟩; have HB := hide hb; clear hb) | ((with_reducible refine (N.out _ HB.out).mono ?_); rintro e w1 ⟨rfl, hb⟩; have HB := hide hb; clear hb) | ((with_reducible refine (K.out _ HB.out).mono ?_); rintro e w1 ⟨rfl, hb⟩; have HB := hide hb; clear hb))
  go_ret
  exact ⟨rfl, HB.out⟩

set_option maxRecDepth 100000 in
set_option maxHeartbeats 1000000 in
theorem held_fits64 {W0 : World} {f n m a b r : Nat} {sg : Bool} (A1 : Hide (∀ W, Calls Try.prog 20 #[.int .u8 (n : Int)] W fun e W' => e = .returned (.int .i64 (f : Int)) ∧ W' = W)) (A2 : Hide (∀ W, Calls Try.prog 20 #[.int .u8 (m : Int)] W fun e W' => e = .returned (.int .i64 64) ∧ W' = W))
    (O1 : Hide (∀ W, Calls Try.prog 21 #[.int .i64 (f : Int), .int .u64 (a : Int)] W fun e W' => e = .returned (.int .u64 (b : Int)) ∧ W' = W))
    (C1 : Hide (∀ W, Below W0.heap.size W0 W → Calls Try.prog 9 #[.int .i64 (f : Int), .int .i64 64, .bool sg, .int .u64 (b : Int)] W fun e W' => e = .returned (.tuple #[.int .u64 (r : Int), .int .i64 0]) ∧ Below W0.heap.size W0 W'))
    (C2 : Hide (∀ W, Below W0.heap.size W0 W → Calls Try.prog 11 #[.int .i64 (f : Int), .int .i64 64, .bool sg, .int .u64 (b : Int)] W fun e W' => e = .returned (.tuple #[.int .u64 (r : Int), .int .i64 0]) ∧ Below W0.heap.size W0 W'))
    (K : Hide (∀ W, Below W0.heap.size W0 W → Calls Try.prog 13 #[] W fun e W' => e = .returned (.bool true) ∧ Below W0.heap.size W0 W')) (HB : Hide (Below W0.heap.size W0 W0)) :
    Calls Try.prog 6 #[.int .u8 (n : Int), .int .u8 (m : Int), .bool sg, .int .u64 (a : Int)] W0 fun e W' => e = .returned (.bool true) ∧ Below W0.heap.size W0 W' := by
  go_enter Try.func6, Try.ntmps6
  go_wp2_with (first | ((with_reducible refine (A1.out _).mono ?_); rintro e w1 ⟨rfl, rfl⟩) | ((with_reducible refine (A2.out _).mono ?_); rintro e w1 ⟨rfl, rfl⟩) | ((with_reducible refine (O1.out _).mono ?_); rintro e w1 ⟨rfl, rfl⟩) | ((with_reducible refine (C1.out _ HB.out).mono ?_); rintro e w1 ⟨rfl, hb⟩; have HB := hide hb; clear hb) | ((with_reducible refine (C2.out _ HB.out).mono ?_); rintro e w1 ⟨rfl, hb⟩; have HB := hide hb; clear hb) | ((with_reducible refine (K.out _ HB.out).mono ?_); rintro e w1 ⟨rfl, hb⟩; have HB := hide hb; clear hb))
  go_ret
  exact ⟨rfl, HB.out⟩

set_option maxRecDepth 100000 in
set_option maxHeartbeats 1000000 in
theorem held_false64n {W0 : World} {f n m a b : Nat} (A1 : Hide (∀ W, Calls Try.prog 20 #[.int .u8 (n : Int)] W fun e W' => e = .returned (.int .i64 (f : Int)) ∧ W' = W)) (A2 : Hide (∀ W, Calls Try.prog 20 #[.int .u8 (m : Int)] W fun e W' => e = .returned (.int .i64 64) ∧ W' = W))
    (O1 : Hide (∀ W, Calls Try.prog 21 #[.int .i64 (f : Int), .int .u64 (a : Int)] W fun e W' => e = .returned (.int .u64 (b : Int)) ∧ W' = W))
    (O2 : Hide (∀ W, Calls Try.prog 21 #[.int .i64 64, .int .u64 18446744073709551615] W fun e W' => e = .returned (.int .u64 18446744073709551615) ∧ W' = W))
    (C1 : Hide (∀ W, Below W0.heap.size W0 W → Calls Try.prog 9 #[.int .i64 (f : Int), .int .i64 64, .bool false, .int .u64 (b : Int)] W fun e W' => e = .returned (.tuple #[.int .u64 0, .int .i64 6]) ∧ Below W0.heap.size W0 W'))
    (C2 : Hide (∀ W, Below W0.heap.size W0 W → Calls Try.prog 11 #[.int .i64 (f : Int), .int .i64 64, .bool false, .int .u64 (b : Int)] W fun e W' => e = .returned (.tuple #[.int .u64 0, .int .i64 0]) ∧ Below W0.heap.size W0 W'))
    (N : Hide (∀ W, Below W0.heap.size W0 W → Calls Try.prog 22 #[.int .i64 (f : Int), .int .u64 (b : Int)] W fun e W' => e = .returned (.tuple #[.bool true, .int .i64 0]) ∧ Below W0.heap.size W0 W'))
    (K : Hide (∀ W, Below W0.heap.size W0 W → Calls Try.prog 13 #[] W fun e W' => e = .returned (.bool true) ∧ Below W0.heap.size W0 W')) (HB : Hide (Below W0.heap.size W0 W0)) :
    Calls Try.prog 6 #[.int .u8 (n : Int), .int .u8 (m : Int), .bool false, .int .u64 (a : Int)] W0 fun e W' => e = .returned (.bool true) ∧ Below W0.heap.size W0 W' := by
  go_enter Try.func6, Try.ntmps6
  go_wp2_with (first | ((with_reducible refine (A1.out _).mono ?_); rintro e w1 ⟨rfl, rfl⟩) | ((with_reducible refine (A2.out _).mono ?_); rintro e w1 ⟨rfl, rfl⟩) | ((with_reducible refine (O1.out _).mono ?_); rintro e w1 ⟨rfl, rfl⟩) | ((with_reducible refine (O2.out _).mono ?_); rintro e w1 ⟨rfl, rfl⟩) | ((with_reducible refine (C1.out _ HB.out).mono ?_); rintro e w1 ⟨rfl, hb⟩; have HB := hide hb; clear hb) | ((with_reducible refine (C2.out _ HB.out).mono ?_); rintro e w1 ⟨rfl, hb⟩; have HB := hide hb; clear hb) | ((with_reducible refine (N.out _ HB.out).mono ?_); rintro e w1 ⟨rfl, hb⟩; have HB := hide hb; clear hb) | ((with_reducible refine (K.out _ HB.out).mono ?_); rintro e w1 ⟨rfl, hb⟩; have HB := hide hb; clear hb))
  go_ret
  exact ⟨rfl, HB.out⟩

set_option maxRecDepth 100000 in
set_option maxHeartbeats 1000000 in
theorem held_false64l {W0 : World} {f n m a b : Nat} (A1 : Hide (∀ W, Calls Try.prog 20 #[.int .u8 (n : Int)] W fun e W' => e = .returned (.int .i64 (f : Int)) ∧ W' = W)) (A2 : Hide (∀ W, Calls Try.prog 20 #[.int .u8 (m : Int)] W fun e W' => e = .returned (.int .i64 64) ∧ W' = W))
    (O1 : Hide (∀ W, Calls Try.prog 21 #[.int .i64 (f : Int), .int .u64 (a : Int)] W fun e W' => e = .returned (.int .u64 (b : Int)) ∧ W' = W))
    (O2 : Hide (∀ W, Calls Try.prog 21 #[.int .i64 64, .int .u64 18446744073709551615] W fun e W' => e = .returned (.int .u64 18446744073709551615) ∧ W' = W))
    (C1 : Hide (∀ W, Below W0.heap.size W0 W → Calls Try.prog 9 #[.int .i64 (f : Int), .int .i64 64, .bool false, .int .u64 (b : Int)] W fun e W' => e = .returned (.tuple #[.int .u64 0, .int .i64 6]) ∧ Below W0.heap.size W0 W'))
    (C2 : Hide (∀ W, Below W0.heap.size W0 W → Calls Try.prog 11 #[.int .i64 (f : Int), .int .i64 64, .bool false, .int .u64 (b : Int)] W fun e W' => e = .returned (.tuple #[.int .u64 0, .int .i64 0]) ∧ Below W0.heap.size W0 W'))
    (N : Hide (∀ W, Below W0.heap.size W0 W → Calls Try.prog 22 #[.int .i64 (f : Int), .int .u64 (b : Int)] W fun e W' => e = .returned (.tuple #[.bool false, .int .i64 0]) ∧ Below W0.heap.size W0 W'))
    (K : Hide (∀ W, Below W0.heap.size W0 W → Calls Try.prog 13 #[] W fun e W' => e = .returned (.bool true) ∧ Below W0.heap.size W0 W')) (HB : Hide (Below W0.heap.size W0 W0)) :
    Calls Try.prog 6 #[.int .u8 (n : Int), .int .u8 (m : Int), .bool false, .int .u64 (a : Int)] W0 fun e W' => e = .returned (.bool true) ∧ Below W0.heap.size W0 W' := by
  go_enter Try.func6, Try.ntmps6
  go_wp2_with (first | ((with_reducible refine (A1.out _).mono ?_); rintro e w1 ⟨rfl, rfl⟩) | ((with_reducible refine (A2.out _).mono ?_); rintro e w1 ⟨rfl, rfl⟩) | ((with_reducible refine (O1.out _).mono ?_); rintro e w1 ⟨rfl, rfl⟩) | ((with_reducible refine (O2.out _).mono ?_); rintro e w1 ⟨rfl, rfl⟩) | ((with_reducible refine (C1.out _ HB.out).mono ?_); rintro e w1 ⟨rfl, hb⟩; have HB := hide hb; clear hb) | ((with_reducible refine (C2.out _ HB.out).mono ?_); rintro e w1 ⟨rfl, hb⟩; have HB := hide hb; clear hb) | ((with_reducible refine (N.out _ HB.out).mono ?_); rintro e w1 ⟨rfl, hb⟩; have HB := hide hb; clear hb) | ((with_reducible refine (K.out _ HB.out).mono ?_); rintro e w1 ⟨rfl, hb⟩; have HB := hide hb; clear hb))
  go_ret
  exact ⟨rfl, HB.out⟩

set_option maxRecDepth 100000 in
set_option maxHeartbeats 1000000 in
theorem held_false64h {W0 : World} {f n m a b : Nat} (A1 : Hide (∀ W, Calls Try.prog 20 #[.int .u8 (n : Int)] W fun e W' => e = .returned (.int .i64 (f : Int)) ∧ W' = W)) (A2 : Hide (∀ W, Calls Try.prog 20 #[.int .u8 (m : Int)] W fun e W' => e = .returned (.int .i64 64) ∧ W' = W))
    (O1 : Hide (∀ W, Calls Try.prog 21 #[.int .i64 (f : Int), .int .u64 (a : Int)] W fun e W' => e = .returned (.int .u64 (b : Int)) ∧ W' = W))
    (O2 : Hide (∀ W, Calls Try.prog 21 #[.int .i64 64, .int .u64 18446744073709551615] W fun e W' => e = .returned (.int .u64 18446744073709551615) ∧ W' = W))
    (C1 : Hide (∀ W, Below W0.heap.size W0 W → Calls Try.prog 9 #[.int .i64 (f : Int), .int .i64 64, .bool false, .int .u64 (b : Int)] W fun e W' => e = .returned (.tuple #[.int .u64 0, .int .i64 6]) ∧ Below W0.heap.size W0 W'))
    (C2 : Hide (∀ W, Below W0.heap.size W0 W → Calls Try.prog 11 #[.int .i64 (f : Int), .int .i64 64, .bool false, .int .u64 (b : Int)] W fun e W' => e = .returned (.tuple #[.int .u64 18446744073709551615, .int .i64 0]) ∧ Below W0.heap.size W0 W'))
    (N : Hide (∀ W, Below W0.heap.size W0 W → Calls Try.prog 22 #[.int .i64 (f : Int), .int .u64 (b : Int)] W fun e W' => e = .returned (.tuple #[.bool false, .int .i64 0]) ∧ Below W0.heap.size W0 W'))
    (K : Hide (∀ W, Below W0.heap.size W0 W → Calls Try.prog 13 #[] W fun e W' => e = .returned (.bool true) ∧ Below W0.heap.size W0 W')) (HB : Hide (Below W0.heap.size W0 W0)) :
    Calls Try.prog 6 #[.int .u8 (n : Int), .int .u8 (m : Int), .bool false, .int .u64 (a : Int)] W0 fun e W' => e = .returned (.bool true) ∧ Below W0.heap.size W0 W' := by
  go_enter Try.func6, Try.ntmps6
  go_wp2_with (first | ((with_reducible refine (A1.out _).mono ?_); rintro e w1 ⟨rfl, rfl⟩) | ((with_reducible refine (A2.out _).mono ?_); rintro e w1 ⟨rfl, rfl⟩) | ((with_reducible refine (O1.out _).mono ?_); rintro e w1 ⟨rfl, rfl⟩) | ((with_reducible refine (O2.out _).mono ?_); rintro e w1 ⟨rfl, rfl⟩) | ((with_reducible refine (C1.out _ HB.out).mono ?_); rintro e w1 ⟨rfl, hb⟩; have HB := hide hb; clear hb) | ((with_reducible refine (C2.out _ HB.out).mono ?_); rintro e w1 ⟨rfl, hb⟩; have HB := hide hb; clear hb) | ((with_reducible refine (N.out _ HB.out).mono ?_); rintro e w1 ⟨rfl, hb⟩; have HB := hide hb; clear hb) | ((with_reducible refine (K.out _ HB.out).mono ?_); rintro e w1 ⟨rfl, hb⟩; have HB := hide hb; clear hb))
  go_ret
  exact ⟨rfl, HB.out⟩

set_option maxRecDepth 100000 in
set_option maxHeartbeats 1000000 in
theorem held_true64n {W0 : World} {f n m a b : Nat} (A1 : Hide (∀ W, Calls Try.prog 20 #[.int .u8 (n : Int)] W fun e W' => e = .returned (.int .i64 (f : Int)) ∧ W' = W)) (A2 : Hide (∀ W, Calls Try.prog 20 #[.int .u8 (m : Int)] W fun e W' => e = .returned (.int .i64 64) ∧ W' = W))
    (O1 : Hide (∀ W, Calls Try.prog 21 #[.int .i64 (f : Int), .int .u64 (a : Int)] W fun e W' => e = .returned (.int .u64 (b : Int)) ∧ W' = W))
    (O2 : Hide (∀ W, Calls Try.prog 21 #[.int .i64 64, .int .u64 18446744073709551615] W fun e W' => e = .returned (.int .u64 18446744073709551615) ∧ W' = W))
    (C1 : Hide (∀ W, Below W0.heap.size W0 W → Calls Try.prog 9 #[.int .i64 (f : Int), .int .i64 64, .bool true, .int .u64 (b : Int)] W fun e W' => e = .returned (.tuple #[.int .u64 0, .int .i64 6]) ∧ Below W0.heap.size W0 W'))
    (C2 : Hide (∀ W, Below W0.heap.size W0 W → Calls Try.prog 11 #[.int .i64 (f : Int), .int .i64 64, .bool true, .int .u64 (b : Int)] W fun e W' => e = .returned (.tuple #[.int .u64 0, .int .i64 0]) ∧ Below W0.heap.size W0 W'))
    (N : Hide (∀ W, Below W0.heap.size W0 W → Calls Try.prog 22 #[.int .i64 (f : Int), .int .u64 (b : Int)] W fun e W' => e = .returned (.tuple #[.bool true, .int .i64 0]) ∧ Below W0.heap.size W0 W'))
    (K : Hide (∀ W, Below W0.heap.size W0 W → Calls Try.prog 13 #[] W fun e W' => e = .returned (.bool true) ∧ Below W0.heap.size W0 W')) (HB : Hide (Below W0.heap.size W0 W0)) :
    Calls Try.prog 6 #[.int .u8 (n : Int), .int .u8 (m : Int), .bool true, .int .u64 (a : Int)] W0 fun e W' => e = .returned (.bool true) ∧ Below W0.heap.size W0 W' := by
  go_enter Try.func6, Try.ntmps6
  go_wp2_with (first | ((with_reducible refine (A1.out _).mono ?_); rintro e w1 ⟨rfl, rfl⟩) | ((with_reducible refine (A2.out _).mono ?_); rintro e w1 ⟨rfl, rfl⟩) | ((with_reducible refine (O1.out _).mono ?_); rintro e w1 ⟨rfl, rfl⟩) | ((with_reducible refine (O2.out _).mono ?_); rintro e w1 ⟨rfl, rfl⟩) | ((with_reducible refine (C1.out _ HB.out).mono ?_); rintro e w1 ⟨rfl, hb⟩; have HB := hide hb; clear hb) | ((with_reducible refine (C2.out _ HB.out).mono ?_); rintro e w1 ⟨rfl, hb⟩; have HB := hide hb; clear hb) | ((with_reducible refine (N.out _ HB.out).mono ?_); rintro e w1 ⟨rfl, hb⟩; have HB := hide hb; clear hb) | ((with_reducible refine (K.out _ HB.out).mono ?_); rintro e w1 ⟨rfl, hb⟩; have HB := hide hb; clear hb))
  go_ret
  exact ⟨rfl, HB.out⟩

set_option maxRecDepth 100000 in
set_option maxHeartbeats 1000000 in
theorem held_true64l {W0 : World} {f n m a b : Nat} (A1 : Hide (∀ W, Calls Try.prog 20 #[.int .u8 (n : Int)] W fun e W' => e = .returned (.int .i64 (f : Int)) ∧ W' = W)) (A2 : Hide (∀ W, Calls Try.prog 20 #[.int .u8 (m : Int)] W fun e W' => e = .returned (.int .i64 64) ∧ W' = W))
    (O1 : Hide (∀ W, Calls Try.prog 21 #[.int .i64 (f : Int), .int .u64 (a : Int)] W fun e W' => e = .returned (.int .u64 (b : Int)) ∧ W' = W))
    (O2 : Hide (∀ W, Calls Try.prog 21 #[.int .i64 64, .int .u64 18446744073709551615] W fun e W' => e = .returned (.int .u64 18446744073709551615) ∧ W' = W))
    (C1 : Hide (∀ W, Below W0.heap.size W0 W → Calls Try.prog 9 #[.int .i64 (f : Int), .int .i64 64, .bool true, .int .u64 (b : Int)] W fun e W' => e = .returned (.tuple #[.int .u64 0, .int .i64 6]) ∧ Below W0.heap.size W0 W'))
    (C2 : Hide (∀ W, Below W0.heap.size W0 W → Calls Try.prog 11 #[.int .i64 (f : Int), .int .i64 64, .bool true, .int .u64 (b : Int)] W fun e W' => e = .returned (.tuple #[.int .u64 9223372036854775808, .int .i64 0]) ∧ Below W0.heap.size W0 W'))
    (N : Hide (∀ W, Below W0.heap.size W0 W → Calls Try.prog 22 #[.int .i64 (f : Int), .int .u64 (b : Int)] W fun e W' => e = .returned (.tuple #[.bool false, .int .i64 0]) ∧ Below W0.heap.size W0 W'))
    (K : Hide (∀ W, Below W0.heap.size W0 W → Calls Try.prog 13 #[] W fun e W' => e = .returned (.bool true) ∧ Below W0.heap.size W0 W')) (HB : Hide (Below W0.heap.size W0 W0)) :
    Calls Try.prog 6 #[.int .u8 (n : Int), .int .u8 (m : Int), .bool true, .int .u64 (a : Int)] W0 fun e W' => e = .returned (.bool true) ∧ Below W0.heap.size W0 W' := by
  go_enter Try.func6, Try.ntmps6
  go_wp2_with (first | ((with_reducible refine (A1.out _).mono ?_); rintro e w1 ⟨rfl, rfl⟩) | ((with_reducible refine (A2.out _).mono ?_); rintro e w1 ⟨rfl, rfl⟩) | ((with_reducible refine (O1.out _).mono ?_); rintro e w1 ⟨rfl, rfl⟩) | ((with_reducible refine (O2.out _).mono ?_); rintro e w1 ⟨rfl, rfl⟩) | ((with_reducible refine (C1.out _ HB.out).mono ?_); rintro e w1 ⟨rfl, hb⟩; have HB := hide hb; clear hb) | ((with_reducible refine (C2.out _ HB.out).mono ?_); rintro e w1 ⟨rfl, hb⟩; have HB := hide hb; clear hb) | ((with_reducible refine (N.out _ HB.out).mono ?_); rintro e w1 ⟨rfl, hb⟩; have HB := hide hb; clear hb) | ((with_reducible refine (K.out _ HB.out).mono ?_); rintro e w1 ⟨rfl, hb⟩; have HB := hide hb; clear hb))
  go_ret
  exact ⟨rfl, HB.out⟩

set_option maxRecDepth 100000 in
set_option maxHeartbeats 1000000 in
theorem held_true64h {W0 : World} {f n m a b : Nat} (A1 : Hide (∀ W, Calls Try.prog 20 #[.int .u8 (n : Int)] W fun e W' => e = .returned (.int .i64 (f : Int)) ∧ W' = W)) (A2 : Hide (∀ W, Calls Try.prog 20 #[.int .u8 (m : Int)] W fun e W' => e = .returned (.int .i64 64) ∧ W' = W))
    (O1 : Hide (∀ W, Calls Try.prog 21 #[.int .i64 (f : Int), .int .u64 (a : Int)] W fun e W' => e = .returned (.int .u64 (b : Int)) ∧ W' = W))
    (O2 : Hide (∀ W, Calls Try.prog 21 #[.int .i64 64, .int .u64 18446744073709551615] W fun e W' => e = .returned (.int .u64 18446744073709551615) ∧ W' = W))
    (C1 : Hide (∀ W, Below W0.heap.size W0 W → Calls Try.prog 9 #[.int .i64 (f : Int), .int .i64 64, .bool true, .int .u64 (b : Int)] W fun e W' => e = .returned (.tuple #[.int .u64 0, .int .i64 6]) ∧ Below W0.heap.size W0 W'))
    (C2 : Hide (∀ W, Below W0.heap.size W0 W → Calls Try.prog 11 #[.int .i64 (f : Int), .int .i64 64, .bool true, .int .u64 (b : Int)] W fun e W' => e = .returned (.tuple #[.int .u64 9223372036854775807, .int .i64 0]) ∧ Below W0.heap.size W0 W'))
    (N : Hide (∀ W, Below W0.heap.size W0 W → Calls Try.prog 22 #[.int .i64 (f : Int), .int .u64 (b : Int)] W fun e W' => e = .returned (.tuple #[.bool false, .int .i64 0]) ∧ Below W0.heap.size W0 W'))
    (K : Hide (∀ W, Below W0.heap.size W0 W → Calls Try.prog 13 #[] W fun e W' => e = .returned (.bool true) ∧ Below W0.heap.size W0 W')) (HB : Hide (Below W0.heap.size W0 W0)) :
    Calls Try.prog 6 #[.int .u8 (n : Int), .int .u8 (m : Int), .bool true, .int .u64 (a : Int)] W0 fun e W' => e = .returned (.bool true) ∧ Below W0.heap.size W0 W' := by
  go_enter Try.func6, Try.ntmps6
  go_wp2_with (first | ((with_reducible refine (A1.out _).mono ?_); rintro e w1 ⟨rfl, rfl⟩) | ((with_reducible refine (A2.out _).mono ?_); rintro e w1 ⟨rfl, rfl⟩) | ((with_reducible refine (O1.out _).mono ?_); rintro e w1 ⟨rfl, rfl⟩) | ((with_reducible refine (O2.out _).mono ?_); rintro e w1 ⟨rfl, rfl⟩) | ((with_reducible refine (C1.out _ HB.out).mono ?_); rintro e w1 ⟨rfl, hb⟩; have HB := hide hb; clear hb) | ((with_reducible refine (C2.out _ HB.out).mono ?_); rintro e w1 ⟨rfl, hb⟩; have HB := hide hb; clear hb) | ((with_reducible refine (N.out _ HB.out).mono ?_); rintro e w1 ⟨rfl, hb⟩; have HB := hide hb; clear hb) | ((with_reducible refine (K.out _ HB.out).mono ?_); rintro e w1 ⟨rfl, hb⟩; have HB := hide hb; clear hb))
  go_ret
  exact ⟨rfl, HB.out⟩

theorem ConvsHeld_calls (n m : Int) (sg : Bool) (a : Int) (w0 : (Lit.int .u8 n).wf = true) (w1 : (Lit.int .u8 m).wf = true) (w3 : (Lit.int .u64 a).wf = true) (W : World) :
    Calls Try.prog 6 #[.int .u8 n, .int .u8 m, .bool sg, .int .u64 a] W fun e W' => e = .returned (.bool true) ∧ Below W.heap.size W W' := by
  obtain ⟨n, rfl⟩ := wf8' w0
  obtain ⟨m, rfl⟩ := wf8' w1
  obtain ⟨a, rfl, ha⟩ := wf64' w3
  have hf := wd_isW n
  have ht := wd_isW m
  have hb := cut_lt (wd n) a
  have hb64 : a % 2 ^ wd n < 2 ^ 64 := Nat.lt_of_le_of_lt (Nat.mod_le _ _) ha
  have A1 := hide (lwidth_calls n)
  have A2 := hide (lwidth_calls m)
  have O1 := hide (lof_calls hf a ha)
  have K := hide (@works_calls W)
  have HB := hide (Below.refl W.heap.size W)
  have O2 := hide (lof_calls ht 18446744073709551615 (by decide))
  generalize a % 2 ^ wd n = b at *
  generalize wd n = f at *
  generalize wd m = t at *
  cases hr : cutN f t sg b with
  | mk r ok =>
  have hcu := cutF_of (sg := sg) hf ht hb
  have hhe := heldF_of (sg := sg) hf ht hb
  rw [hr] at hcu hhe
  cases ok
  · have C1 := hide (@cut_from W f t sg b hb64 0 6 hcu)
    have C2 := hide (@held_from W f t sg b hb64 r 0 hhe)
    have N := hide (@none_from W f b hf hb _ rfl)
    cases hn : na f b with
    | true =>
      rw [hn] at N
      rw [cut_none hn] at hr
      cases hr
      rcases ht with rfl | rfl <;> cases sg
      · exact held_false32n A1 A2 O1 O2 C1 C2 N K HB
      · exact held_true32n A1 A2 O1 O2 C1 C2 N K HB
      · exact held_false64n A1 A2 O1 O2 C1 C2 N K HB
      · exact held_true64n A1 A2 O1 O2 C1 C2 N K HB
    | false =>
      rw [hn] at N
      rcases cut_bound ht hn hr with e | e
      · rcases ht with rfl | rfl <;> cases sg
        · change r = 0 at e
          subst e
          exact held_false32l A1 A2 O1 O2 C1 C2 N K HB
        · change r = 2147483648 at e
          subst e
          exact held_true32l A1 A2 O1 O2 C1 C2 N K HB
        · change r = 0 at e
          subst e
          exact held_false64l A1 A2 O1 O2 C1 C2 N K HB
        · change r = 9223372036854775808 at e
          subst e
          exact held_true64l A1 A2 O1 O2 C1 C2 N K HB
      · rcases ht with rfl | rfl <;> cases sg
        · change r = 4294967295 at e
          subst e
          exact held_false32h A1 A2 O1 O2 C1 C2 N K HB
        · change r = 2147483647 at e
          subst e
          exact held_true32h A1 A2 O1 O2 C1 C2 N K HB
        · change r = 18446744073709551615 at e
          subst e
          exact held_false64h A1 A2 O1 O2 C1 C2 N K HB
        · change r = 9223372036854775807 at e
          subst e
          exact held_true64h A1 A2 O1 O2 C1 C2 N K HB
  · have C1 := hide (@cut_from W f t sg b hb64 r 0 hcu)
    have C2 := hide (@held_from W f t sg b hb64 r 0 hhe)
    rcases ht with rfl | rfl
    · exact held_fits32 A1 A2 O1 C1 C2 K HB
    · exact held_fits64 A1 A2 O1 C1 C2 K HB

set_option maxRecDepth 100000 in
set_option maxHeartbeats 1000000 in
theorem ConvsBack_calls (a : Int) (w0 : (Lit.int .u32 a).wf = true) (W : World) :
    Calls Try.prog 7 #[.int .u32 a] W fun e W' => e = .returned (.bool true) ∧ Below W.heap.size W W' := by
  obtain ⟨a, rfl, ha⟩ := wf32' w0
  have E : IntKind.u64.wrap (a : Int) = (a : Int) := by rw [IntKind.wrap_u64]; omega
  have hp : promF a = (promN a, 0) := by unfold promF; rw [if_pos (by omega)]
  have K := hide (@works_calls W)
  have HB := hide (Below.refl W.heap.size W)
  have N := hide (@none_from W 32 a (.inl rfl) ha _ rfl)
  have P := hide (@prom_from W a (by omega) _ _ hp)
  cases hn : na 32 a with
  | true =>
    rw [hn] at N
    have e : promN a = 9221120237041090560 := by unfold promN; rw [hn]; rfl
    rw [e] at P
    have D := hide (@dem_from W 9221120237041090560 (by decide) _ dem_nan)
    simp only [show ((32 : Nat) : Int) = 32 from rfl, show ((0 : Nat) : Int) = 0 from rfl, show ((9221120237041090560 : Nat) : Int) = 9221120237041090560 from rfl, show ((2143289344 : Nat) : Int) = 2143289344 from rfl] at N P D
    clear w0 ha hp hn e
    go_enter Try.func7, Try.ntmps7
    go_wp2_with (first | ((with_reducible refine (P.out _ HB.out).mono ?_); rintro e w1 ⟨rfl, hb⟩; have HB := hide hb; clear hb) | ((with_reducible refine (D.out _ HB.out).mono ?_); rintro e w1 ⟨rfl, hb⟩; have HB := hide hb; clear hb) | ((with_reducible refine (N.out _ HB.out).mono ?_); rintro e w1 ⟨rfl, hb⟩; have HB := hide hb; clear hb) | ((with_reducible refine (K.out _ HB.out).mono ?_); rintro e w1 ⟨rfl, hb⟩; have HB := hide hb; clear hb))
    go_ret
    exact ⟨rfl, HB.out⟩
  | false =>
    rw [hn] at N
    have e : promN a = worthN 32 a := by unfold promN; rw [hn]; rfl
    rw [e] at P
    have D := hide (@dem_from W (worthN 32 a) (worth_lt hn) _ (dem_worth ha hn))
    simp only [show ((32 : Nat) : Int) = 32 from rfl, show ((0 : Nat) : Int) = 0 from rfl] at N P
    clear w0 ha hp hn e
    generalize worthN 32 a = x at *
    go_enter Try.func7, Try.ntmps7
    go_wp2_with (first | ((with_reducible refine (P.out _ HB.out).mono ?_); rintro e w1 ⟨rfl, hb⟩; have HB := hide hb; clear hb) | ((with_reducible refine (D.out _ HB.out).mono ?_); rintro e w1 ⟨rfl, hb⟩; have HB := hide hb; clear hb) | ((with_reducible refine (N.out _ HB.out).mono ?_); rintro e w1 ⟨rfl, hb⟩; have HB := hide hb; clear hb) | ((with_reducible refine (K.out _ HB.out).mono ?_); rintro e w1 ⟨rfl, hb⟩; have HB := hide hb; clear hb))
    go_ret
    exact ⟨rfl, HB.out⟩

theorem wf64s {n : Int} (h : (Lit.int .i64 n).wf = true) : -9223372036854775808 ≤ n ∧ n ≤ 9223372036854775807 := (Lit.wf_int_iff _ _).1 h

section
variable {W0 : World} {n v : Int} {u x : Nat}
set_option maxRecDepth 100000 in
set_option maxHeartbeats 1000000 in
theorem whole_neg (S : n / 2048 = v) (E : IntKind.u64.wrap v = (u : Int)) (d : v < 0)
    (C1 : Hide (∀ W, Below W0.heap.size W0 W → Calls Try.prog 14 #[.int .i64 64, .int .i64 64, .bool true, .int .u64 (u : Int)] W fun e W' => e = .returned (.tuple #[.int .u64 (x : Int), .int .i64 0]) ∧ Below W0.heap.size W0 W'))
    (C2 : Hide (∀ W, Below W0.heap.size W0 W → Calls Try.prog 9 #[.int .i64 64, .int .i64 64, .bool true, .int .u64 (x : Int)] W fun e W' => e = .returned (.tuple #[.int .u64 (u : Int), .int .i64 0]) ∧ Below W0.heap.size W0 W'))
    (K : Hide (∀ W, Below W0.heap.size W0 W → Calls Try.prog 13 #[] W fun e W' => e = .returned (.bool true) ∧ Below W0.heap.size W0 W')) (HB : Hide (Below W0.heap.size W0 W0)) :
    Calls Try.prog 8 #[.int .i64 n] W0 fun e W' => e = .returned (.bool true) ∧ Below W0.heap.size W0 W' := by
  go_enter Try.func8, Try.ntmps8
  go_wp2_with (first | ((with_reducible refine (C1.out _ HB.out).mono ?_); rintro e w1 ⟨rfl, hb⟩; have HB := hide hb; clear hb) | ((with_reducible refine (C2.out _ HB.out).mono ?_); rintro e w1 ⟨rfl, hb⟩; have HB := hide hb; clear hb) | ((with_reducible refine (K.out _ HB.out).mono ?_); rintro e w1 ⟨rfl, hb⟩; have HB := hide hb; clear hb))
  go_ret
  exact ⟨rfl, HB.out⟩
set_option maxRecDepth 100000 in
set_option maxHeartbeats 1000000 in
theorem whole_pos (S : n / 2048 = v) (E : IntKind.u64.wrap v = (u : Int)) (d : ¬ v < 0)
    (C1 : Hide (∀ W, Below W0.heap.size W0 W → Calls Try.prog 14 #[.int .i64 64, .int .i64 64, .bool true, .int .u64 (u : Int)] W fun e W' => e = .returned (.tuple #[.int .u64 (x : Int), .int .i64 0]) ∧ Below W0.heap.size W0 W'))
    (C2 : Hide (∀ W, Below W0.heap.size W0 W → Calls Try.prog 9 #[.int .i64 64, .int .i64 64, .bool true, .int .u64 (x : Int)] W fun e W' => e = .returned (.tuple #[.int .u64 (u : Int), .int .i64 0]) ∧ Below W0.heap.size W0 W'))
    (C3 : Hide (∀ W, Below W0.heap.size W0 W → Calls Try.prog 14 #[.int .i64 64, .int .i64 64, .bool false, .int .u64 (u : Int)] W fun e W' => e = .returned (.tuple #[.int .u64 (x : Int), .int .i64 0]) ∧ Below W0.heap.size W0 W'))
    (C4 : Hide (∀ W, Below W0.heap.size W0 W → Calls Try.prog 9 #[.int .i64 64, .int .i64 64, .bool false, .int .u64 (x : Int)] W fun e W' => e = .returned (.tuple #[.int .u64 (u : Int), .int .i64 0]) ∧ Below W0.heap.size W0 W'))
    (K : Hide (∀ W, Below W0.heap.size W0 W → Calls Try.prog 13 #[] W fun e W' => e = .returned (.bool true) ∧ Below W0.heap.size W0 W')) (HB : Hide (Below W0.heap.size W0 W0)) :
    Calls Try.prog 8 #[.int .i64 n] W0 fun e W' => e = .returned (.bool true) ∧ Below W0.heap.size W0 W' := by
  go_enter Try.func8, Try.ntmps8
  go_wp2_with (first | ((with_reducible refine (C1.out _ HB.out).mono ?_); rintro e w1 ⟨rfl, hb⟩; have HB := hide hb; clear hb) | ((with_reducible refine (C2.out _ HB.out).mono ?_); rintro e w1 ⟨rfl, hb⟩; have HB := hide hb; clear hb) | ((with_reducible refine (C3.out _ HB.out).mono ?_); rintro e w1 ⟨rfl, hb⟩; have HB := hide hb; clear hb) | ((with_reducible refine (C4.out _ HB.out).mono ?_); rintro e w1 ⟨rfl, hb⟩; have HB := hide hb; clear hb) | ((with_reducible refine (K.out _ HB.out).mono ?_); rintro e w1 ⟨rfl, hb⟩; have HB := hide hb; clear hb))
  go_ret
  exact ⟨rfl, HB.out⟩
end

theorem ConvsWhole_calls (n : Int) (w0 : (Lit.int .i64 n).wf = true) (W : World) :
    Calls Try.prog 8 #[.int .i64 n] W fun e W' => e = .returned (.bool true) ∧ Below W.heap.size W W' := by
  obtain ⟨l1, l2⟩ := wf64s w0
  have K := hide (@works_calls W)
  have HB := hide (Below.refl W.heap.size W)
  have hv1 : -4503599627370496 ≤ n / 2048 := by omega
  have hv2 : n / 2048 ≤ 4503599627370496 := by omega
  have hS : n / 2048 = n / 2048 := rfl
  generalize hv : n / 2048 = v at *
  have hu : (v % 18446744073709551616).toNat < 2 ^ 64 := by omega
  have E : IntKind.u64.wrap v = (((v % 18446744073709551616).toNat : Nat) : Int) := by rw [IntKind.wrap_u64]; omega
  have hb := whole_back hv1 hv2
  have C1 := hide (@float_from W 64 64 true _ hu _ _ (fltF_of (fr := 64) (to := 64) (sg := true) (.inr rfl) (.inr rfl) hu))
  have hx : fltN 64 64 true (v % 18446744073709551616).toNat < 2 ^ 64 := flt_lt (.inr rfl) _ _ _
  have hc := cutF_of (fr := 64) (to := 64) (sg := true) (.inr rfl) (.inr rfl) hx
  rw [hb] at hc
  have C2 := hide (@cut_from W 64 64 true _ hx _ _ hc)
  by_cases d : v < 0
  · exact whole_neg hv E d C1 C2 K HB
  · have hle : (v % 18446744073709551616).toNat ≤ 4503599627370496 := by omega
    obtain ⟨g1, g2⟩ := whole_backU hle
    have C3 := hide (@float_from W 64 64 false _ hu _ _ (fltF_of (fr := 64) (to := 64) (sg := false) (.inr rfl) (.inr rfl) hu))
    rw [g2] at C3 g1
    have hc' := cutF_of (fr := 64) (to := 64) (sg := false) (.inr rfl) (.inr rfl) hx
    rw [g1] at hc'
    have C4 := hide (@cut_from W 64 64 false _ hx _ _ hc')
    exact whole_pos hv E d C1 C2 C3 C4 K HB
end Go.Proofs.Ytfahogbiekmdfaa
