/-
  ConvsPlaces (genlaw6.py wrote it).
-/
import Derived.Test.YtfahogbiekmdfabConvLaw2
set_option linter.unusedVariables false
set_option linter.unusedSimpArgs false
namespace Go.Proofs.Ytfahogbiekmdfab
open Go.RowKit Flo


set_option maxRecDepth 100000 in
set_option maxHeartbeats 1000000 in
theorem places_32_32_s {W0 : World} {a x y u v : Nat} {sg : Bool} (F : (a : Int) / 4294967296 = 0)
    (C1 : Hide (∀ W, Below W0.heap.size W0 W → Calls Try.prog 4 #[.int .i64 32, .int .i64 32, .bool sg, .int .u64 (a : Int)] W fun e W' => e = .returned (.tuple #[.int .u64 (x : Int), .int .i64 0]) ∧ Below W0.heap.size W0 W'))
    (C2 : Hide (∀ W, Below W0.heap.size W0 W → Calls Try.prog 5 #[.int .i64 32, .int .i64 32, .bool sg, .int .u64 (a : Int)] W fun e W' => e = .returned (.tuple #[.int .u64 (y : Int), .int .i64 0]) ∧ Below W0.heap.size W0 W'))
    (C3 : Hide (∀ W, Below W0.heap.size W0 W → Calls Try.prog 6 #[.int .u64 (a : Int)] W fun e W' => e = .returned (.tuple #[.int .u64 (u : Int), .int .i64 0]) ∧ Below W0.heap.size W0 W'))
    (C4 : Hide (∀ W, Below W0.heap.size W0 W → Calls Try.prog 7 #[.int .u64 (a : Int)] W fun e W' => e = .returned (.tuple #[.int .u64 (v : Int), .int .i64 0]) ∧ Below W0.heap.size W0 W'))
    (K : Hide (∀ W, Below W0.heap.size W0 W → Calls Try.prog 8 #[] W fun e W' => e = .returned (.bool true) ∧ Below W0.heap.size W0 W')) (HB : Hide (Below W0.heap.size W0 W0)) :
    Calls Try.prog 3 #[.int .i64 32, .int .i64 32, .bool sg, .int .u64 (a : Int)] W0 fun e W' => e = .returned (.bool true) ∧ Below W0.heap.size W0 W' := by
  go_enter Try.func3, Try.ntmps3
  go_wp2_with (first | ((with_reducible refine (C1.out _ HB.out).mono ?_); rintro e w1 ⟨rfl, hb⟩; have HB := hide hb; clear hb) | ((with_reducible refine (C2.out _ HB.out).mono ?_); rintro e w1 ⟨rfl, hb⟩; have HB := hide hb; clear hb) | ((with_reducible refine (C3.out _ HB.out).mono ?_); rintro e w1 ⟨rfl, hb⟩; have HB := hide hb; clear hb) | ((with_reducible refine (C4.out _ HB.out).mono ?_); rintro e w1 ⟨rfl, hb⟩; have HB := hide hb; clear hb) | ((with_reducible refine (K.out _ HB.out).mono ?_); rintro e w1 ⟨rfl, hb⟩; have HB := hide hb; clear hb))
  go_ret
  exact ⟨rfl, HB.out⟩

set_option maxRecDepth 100000 in
set_option maxHeartbeats 1000000 in
theorem places_32_32_g {W0 : World} {a x y u v : Nat} {sg : Bool} (F : ((a : Int) / 4294967296 == 0) = false)
    (C1 : Hide (∀ W, Below W0.heap.size W0 W → Calls Try.prog 4 #[.int .i64 32, .int .i64 32, .bool sg, .int .u64 (a : Int)] W fun e W' => e = .returned (.tuple #[.int .u64 (x : Int), .int .i64 2]) ∧ Below W0.heap.size W0 W'))
    (C2 : Hide (∀ W, Below W0.heap.size W0 W → Calls Try.prog 5 #[.int .i64 32, .int .i64 32, .bool sg, .int .u64 (a : Int)] W fun e W' => e = .returned (.tuple #[.int .u64 (y : Int), .int .i64 2]) ∧ Below W0.heap.size W0 W'))
    (C3 : Hide (∀ W, Below W0.heap.size W0 W → Calls Try.prog 6 #[.int .u64 (a : Int)] W fun e W' => e = .returned (.tuple #[.int .u64 (u : Int), .int .i64 2]) ∧ Below W0.heap.size W0 W'))
    (C4 : Hide (∀ W, Below W0.heap.size W0 W → Calls Try.prog 7 #[.int .u64 (a : Int)] W fun e W' => e = .returned (.tuple #[.int .u64 (v : Int), .int .i64 0]) ∧ Below W0.heap.size W0 W'))
    (K : Hide (∀ W, Below W0.heap.size W0 W → Calls Try.prog 8 #[] W fun e W' => e = .returned (.bool true) ∧ Below W0.heap.size W0 W')) (HB : Hide (Below W0.heap.size W0 W0)) :
    Calls Try.prog 3 #[.int .i64 32, .int .i64 32, .bool sg, .int .u64 (a : Int)] W0 fun e W' => e = .returned (.bool true) ∧ Below W0.heap.size W0 W' := by
  go_enter Try.func3, Try.ntmps3
  go_wp2_with (first | ((with_reducible refine (C1.out _ HB.out).mono ?_); rintro e w1 ⟨rfl, hb⟩; have HB := hide hb; clear hb) | ((with_reducible refine (C2.out _ HB.out).mono ?_); rintro e w1 ⟨rfl, hb⟩; have HB := hide hb; clear hb) | ((with_reducible refine (C3.out _ HB.out).mono ?_); rintro e w1 ⟨rfl, hb⟩; have HB := hide hb; clear hb) | ((with_reducible refine (C4.out _ HB.out).mono ?_); rintro e w1 ⟨rfl, hb⟩; have HB := hide hb; clear hb) | ((with_reducible refine (K.out _ HB.out).mono ?_); rintro e w1 ⟨rfl, hb⟩; have HB := hide hb; clear hb))
  go_ret
  exact ⟨rfl, HB.out⟩

set_option maxRecDepth 100000 in
set_option maxHeartbeats 1000000 in
theorem places_32_64_s {W0 : World} {a x y u v : Nat} {sg : Bool} (F : (a : Int) / 4294967296 = 0)
    (C1 : Hide (∀ W, Below W0.heap.size W0 W → Calls Try.prog 4 #[.int .i64 32, .int .i64 64, .bool sg, .int .u64 (a : Int)] W fun e W' => e = .returned (.tuple #[.int .u64 (x : Int), .int .i64 0]) ∧ Below W0.heap.size W0 W'))
    (C2 : Hide (∀ W, Below W0.heap.size W0 W → Calls Try.prog 5 #[.int .i64 32, .int .i64 64, .bool sg, .int .u64 (a : Int)] W fun e W' => e = .returned (.tuple #[.int .u64 (y : Int), .int .i64 0]) ∧ Below W0.heap.size W0 W'))
    (C3 : Hide (∀ W, Below W0.heap.size W0 W → Calls Try.prog 6 #[.int .u64 (a : Int)] W fun e W' => e = .returned (.tuple #[.int .u64 (u : Int), .int .i64 0]) ∧ Below W0.heap.size W0 W'))
    (C4 : Hide (∀ W, Below W0.heap.size W0 W → Calls Try.prog 7 #[.int .u64 (a : Int)] W fun e W' => e = .returned (.tuple #[.int .u64 (v : Int), .int .i64 0]) ∧ Below W0.heap.size W0 W'))
    (K : Hide (∀ W, Below W0.heap.size W0 W → Calls Try.prog 8 #[] W fun e W' => e = .returned (.bool true) ∧ Below W0.heap.size W0 W')) (HB : Hide (Below W0.heap.size W0 W0)) :
    Calls Try.prog 3 #[.int .i64 32, .int .i64 64, .bool sg, .int .u64 (a : Int)] W0 fun e W' => e = .returned (.bool true) ∧ Below W0.heap.size W0 W' := by
  go_enter Try.func3, Try.ntmps3
  go_wp2_with (first | ((with_reducible refine (C1.out _ HB.out).mono ?_); rintro e w1 ⟨rfl, hb⟩; have HB := hide hb; clear hb) | ((with_reducible refine (C2.out _ HB.out).mono ?_); rintro e w1 ⟨rfl, hb⟩; have HB := hide hb; clear hb) | ((with_reducible refine (C3.out _ HB.out).mono ?_); rintro e w1 ⟨rfl, hb⟩; have HB := hide hb; clear hb) | ((with_reducible refine (C4.out _ HB.out).mono ?_); rintro e w1 ⟨rfl, hb⟩; have HB := hide hb; clear hb) | ((with_reducible refine (K.out _ HB.out).mono ?_); rintro e w1 ⟨rfl, hb⟩; have HB := hide hb; clear hb))
  go_ret
  exact ⟨rfl, HB.out⟩

set_option maxRecDepth 100000 in
set_option maxHeartbeats 1000000 in
theorem places_32_64_g {W0 : World} {a x y u v : Nat} {sg : Bool} (F : ((a : Int) / 4294967296 == 0) = false)
    (C1 : Hide (∀ W, Below W0.heap.size W0 W → Calls Try.prog 4 #[.int .i64 32, .int .i64 64, .bool sg, .int .u64 (a : Int)] W fun e W' => e = .returned (.tuple #[.int .u64 (x : Int), .int .i64 2]) ∧ Below W0.heap.size W0 W'))
    (C2 : Hide (∀ W, Below W0.heap.size W0 W → Calls Try.prog 5 #[.int .i64 32, .int .i64 64, .bool sg, .int .u64 (a : Int)] W fun e W' => e = .returned (.tuple #[.int .u64 (y : Int), .int .i64 2]) ∧ Below W0.heap.size W0 W'))
    (C3 : Hide (∀ W, Below W0.heap.size W0 W → Calls Try.prog 6 #[.int .u64 (a : Int)] W fun e W' => e = .returned (.tuple #[.int .u64 (u : Int), .int .i64 2]) ∧ Below W0.heap.size W0 W'))
    (C4 : Hide (∀ W, Below W0.heap.size W0 W → Calls Try.prog 7 #[.int .u64 (a : Int)] W fun e W' => e = .returned (.tuple #[.int .u64 (v : Int), .int .i64 0]) ∧ Below W0.heap.size W0 W'))
    (K : Hide (∀ W, Below W0.heap.size W0 W → Calls Try.prog 8 #[] W fun e W' => e = .returned (.bool true) ∧ Below W0.heap.size W0 W')) (HB : Hide (Below W0.heap.size W0 W0)) :
    Calls Try.prog 3 #[.int .i64 32, .int .i64 64, .bool sg, .int .u64 (a : Int)] W0 fun e W' => e = .returned (.bool true) ∧ Below W0.heap.size W0 W' := by
  go_enter Try.func3, Try.ntmps3
  go_wp2_with (first | ((with_reducible refine (C1.out _ HB.out).mono ?_); rintro e w1 ⟨rfl, hb⟩; have HB := hide hb; clear hb) | ((with_reducible refine (C2.out _ HB.out).mono ?_); rintro e w1 ⟨rfl, hb⟩; have HB := hide hb; clear hb) | ((with_reducible refine (C3.out _ HB.out).mono ?_); rintro e w1 ⟨rfl, hb⟩; have HB := hide hb; clear hb) | ((with_reducible refine (C4.out _ HB.out).mono ?_); rintro e w1 ⟨rfl, hb⟩; have HB := hide hb; clear hb) | ((with_reducible refine (K.out _ HB.out).mono ?_); rintro e w1 ⟨rfl, hb⟩; have HB := hide hb; clear hb))
  go_ret
  exact ⟨rfl, HB.out⟩

set_option maxRecDepth 100000 in
set_option maxHeartbeats 1000000 in
theorem places_32_x_s {W0 : World} {to : Int} {a x y u v : Nat} {sg : Bool} (t1 : (to == 32) = false) (t2 : (to == 64) = false) (F : (a : Int) / 4294967296 = 0)
    (C1 : Hide (∀ W, Below W0.heap.size W0 W → Calls Try.prog 4 #[.int .i64 32, .int .i64 to, .bool sg, .int .u64 (a : Int)] W fun e W' => e = .returned (.tuple #[.int .u64 (x : Int), .int .i64 2]) ∧ Below W0.heap.size W0 W'))
    (C2 : Hide (∀ W, Below W0.heap.size W0 W → Calls Try.prog 5 #[.int .i64 32, .int .i64 to, .bool sg, .int .u64 (a : Int)] W fun e W' => e = .returned (.tuple #[.int .u64 (y : Int), .int .i64 2]) ∧ Below W0.heap.size W0 W'))
    (C3 : Hide (∀ W, Below W0.heap.size W0 W → Calls Try.prog 6 #[.int .u64 (a : Int)] W fun e W' => e = .returned (.tuple #[.int .u64 (u : Int), .int .i64 0]) ∧ Below W0.heap.size W0 W'))
    (C4 : Hide (∀ W, Below W0.heap.size W0 W → Calls Try.prog 7 #[.int .u64 (a : Int)] W fun e W' => e = .returned (.tuple #[.int .u64 (v : Int), .int .i64 0]) ∧ Below W0.heap.size W0 W'))
    (K : Hide (∀ W, Below W0.heap.size W0 W → Calls Try.prog 8 #[] W fun e W' => e = .returned (.bool true) ∧ Below W0.heap.size W0 W')) (HB : Hide (Below W0.heap.size W0 W0)) :
    Calls Try.prog 3 #[.int .i64 32, .int .i64 to, .bool sg, .int .u64 (a : Int)] W0 fun e W' => e = .returned (.bool true) ∧ Below W0.heap.size W0 W' := by
  go_enter Try.func3, Try.ntmps3
  go_wp2_with (first | ((with_reducible refine (C1.out _ HB.out).mono ?_); rintro e w1 ⟨rfl, hb⟩; have HB := hide hb; clear hb) | ((with_reducible refine (C2.out _ HB.out).mono ?_); rintro e w1 ⟨rfl, hb⟩; have HB := hide hb; clear hb) | ((with_reducible refine (C3.out _ HB.out).mono ?_); rintro e w1 ⟨rfl, hb⟩; have HB := hide hb; clear hb) | ((with_reducible refine (C4.out _ HB.out).mono ?_); rintro e w1 ⟨rfl, hb⟩; have HB := hide hb; clear hb) | ((with_reducible refine (K.out _ HB.out).mono ?_); rintro e w1 ⟨rfl, hb⟩; have HB := hide hb; clear hb))
  go_ret
  exact ⟨rfl, HB.out⟩

set_option maxRecDepth 100000 in
set_option maxHeartbeats 1000000 in
theorem places_32_x_g {W0 : World} {to : Int} {a x y u v : Nat} {sg : Bool} (t1 : (to == 32) = false) (t2 : (to == 64) = false) (F : ((a : Int) / 4294967296 == 0) = false)
    (C1 : Hide (∀ W, Below W0.heap.size W0 W → Calls Try.prog 4 #[.int .i64 32, .int .i64 to, .bool sg, .int .u64 (a : Int)] W fun e W' => e = .returned (.tuple #[.int .u64 (x : Int), .int .i64 2]) ∧ Below W0.heap.size W0 W'))
    (C2 : Hide (∀ W, Below W0.heap.size W0 W → Calls Try.prog 5 #[.int .i64 32, .int .i64 to, .bool sg, .int .u64 (a : Int)] W fun e W' => e = .returned (.tuple #[.int .u64 (y : Int), .int .i64 2]) ∧ Below W0.heap.size W0 W'))
    (C3 : Hide (∀ W, Below W0.heap.size W0 W → Calls Try.prog 6 #[.int .u64 (a : Int)] W fun e W' => e = .returned (.tuple #[.int .u64 (u : Int), .int .i64 2]) ∧ Below W0.heap.size W0 W'))
    (C4 : Hide (∀ W, Below W0.heap.size W0 W → Calls Try.prog 7 #[.int .u64 (a : Int)] W fun e W' => e = .returned (.tuple #[.int .u64 (v : Int), .int .i64 0]) ∧ Below W0.heap.size W0 W'))
    (K : Hide (∀ W, Below W0.heap.size W0 W → Calls Try.prog 8 #[] W fun e W' => e = .returned (.bool true) ∧ Below W0.heap.size W0 W')) (HB : Hide (Below W0.heap.size W0 W0)) :
    Calls Try.prog 3 #[.int .i64 32, .int .i64 to, .bool sg, .int .u64 (a : Int)] W0 fun e W' => e = .returned (.bool true) ∧ Below W0.heap.size W0 W' := by
  go_enter Try.func3, Try.ntmps3
  go_wp2_with (first | ((with_reducible refine (C1.out _ HB.out).mono ?_); rintro e w1 ⟨rfl, hb⟩; have HB := hide hb; clear hb) | ((with_reducible refine (C2.out _ HB.out).mono ?_); rintro e w1 ⟨rfl, hb⟩; have HB := hide hb; clear hb) | ((with_reducible refine (C3.out _ HB.out).mono ?_); rintro e w1 ⟨rfl, hb⟩; have HB := hide hb; clear hb) | ((with_reducible refine (C4.out _ HB.out).mono ?_); rintro e w1 ⟨rfl, hb⟩; have HB := hide hb; clear hb) | ((with_reducible refine (K.out _ HB.out).mono ?_); rintro e w1 ⟨rfl, hb⟩; have HB := hide hb; clear hb))
  go_ret
  exact ⟨rfl, HB.out⟩

set_option maxRecDepth 100000 in
set_option maxHeartbeats 1000000 in
theorem places_64_32_s {W0 : World} {a x y u v : Nat} {sg : Bool} (F : (a : Int) / 4294967296 = 0)
    (C1 : Hide (∀ W, Below W0.heap.size W0 W → Calls Try.prog 4 #[.int .i64 64, .int .i64 32, .bool sg, .int .u64 (a : Int)] W fun e W' => e = .returned (.tuple #[.int .u64 (x : Int), .int .i64 0]) ∧ Below W0.heap.size W0 W'))
    (C2 : Hide (∀ W, Below W0.heap.size W0 W → Calls Try.prog 5 #[.int .i64 64, .int .i64 32, .bool sg, .int .u64 (a : Int)] W fun e W' => e = .returned (.tuple #[.int .u64 (y : Int), .int .i64 0]) ∧ Below W0.heap.size W0 W'))
    (C3 : Hide (∀ W, Below W0.heap.size W0 W → Calls Try.prog 6 #[.int .u64 (a : Int)] W fun e W' => e = .returned (.tuple #[.int .u64 (u : Int), .int .i64 0]) ∧ Below W0.heap.size W0 W'))
    (C4 : Hide (∀ W, Below W0.heap.size W0 W → Calls Try.prog 7 #[.int .u64 (a : Int)] W fun e W' => e = .returned (.tuple #[.int .u64 (v : Int), .int .i64 0]) ∧ Below W0.heap.size W0 W'))
    (K : Hide (∀ W, Below W0.heap.size W0 W → Calls Try.prog 8 #[] W fun e W' => e = .returned (.bool true) ∧ Below W0.heap.size W0 W')) (HB : Hide (Below W0.heap.size W0 W0)) :
    Calls Try.prog 3 #[.int .i64 64, .int .i64 32, .bool sg, .int .u64 (a : Int)] W0 fun e W' => e = .returned (.bool true) ∧ Below W0.heap.size W0 W' := by
  go_enter Try.func3, Try.ntmps3
  go_wp2_with (first | ((with_reducible refine (C1.out _ HB.out).mono ?_); rintro e w1 ⟨rfl, hb⟩; have HB := hide hb; clear hb) | ((with_reducible refine (C2.out _ HB.out).mono ?_); rintro e w1 ⟨rfl, hb⟩; have HB := hide hb; clear hb) | ((with_reducible refine (C3.out _ HB.out).mono ?_); rintro e w1 ⟨rfl, hb⟩; have HB := hide hb; clear hb) | ((with_reducible refine (C4.out _ HB.out).mono ?_); rintro e w1 ⟨rfl, hb⟩; have HB := hide hb; clear hb) | ((with_reducible refine (K.out _ HB.out).mono ?_); rintro e w1 ⟨rfl, hb⟩; have HB := hide hb; clear hb))
  go_ret
  exact ⟨rfl, HB.out⟩

set_option maxRecDepth 100000 in
set_option maxHeartbeats 1000000 in
theorem places_64_32_g {W0 : World} {a x y u v : Nat} {sg : Bool} (F : ((a : Int) / 4294967296 == 0) = false)
    (C1 : Hide (∀ W, Below W0.heap.size W0 W → Calls Try.prog 4 #[.int .i64 64, .int .i64 32, .bool sg, .int .u64 (a : Int)] W fun e W' => e = .returned (.tuple #[.int .u64 (x : Int), .int .i64 0]) ∧ Below W0.heap.size W0 W'))
    (C2 : Hide (∀ W, Below W0.heap.size W0 W → Calls Try.prog 5 #[.int .i64 64, .int .i64 32, .bool sg, .int .u64 (a : Int)] W fun e W' => e = .returned (.tuple #[.int .u64 (y : Int), .int .i64 0]) ∧ Below W0.heap.size W0 W'))
    (C3 : Hide (∀ W, Below W0.heap.size W0 W → Calls Try.prog 6 #[.int .u64 (a : Int)] W fun e W' => e = .returned (.tuple #[.int .u64 (u : Int), .int .i64 2]) ∧ Below W0.heap.size W0 W'))
    (C4 : Hide (∀ W, Below W0.heap.size W0 W → Calls Try.prog 7 #[.int .u64 (a : Int)] W fun e W' => e = .returned (.tuple #[.int .u64 (v : Int), .int .i64 0]) ∧ Below W0.heap.size W0 W'))
    (K : Hide (∀ W, Below W0.heap.size W0 W → Calls Try.prog 8 #[] W fun e W' => e = .returned (.bool true) ∧ Below W0.heap.size W0 W')) (HB : Hide (Below W0.heap.size W0 W0)) :
    Calls Try.prog 3 #[.int .i64 64, .int .i64 32, .bool sg, .int .u64 (a : Int)] W0 fun e W' => e = .returned (.bool true) ∧ Below W0.heap.size W0 W' := by
  go_enter Try.func3, Try.ntmps3
  go_wp2_with (first | ((with_reducible refine (C1.out _ HB.out).mono ?_); rintro e w1 ⟨rfl, hb⟩; have HB := hide hb; clear hb) | ((with_reducible refine (C2.out _ HB.out).mono ?_); rintro e w1 ⟨rfl, hb⟩; have HB := hide hb; clear hb) | ((with_reducible refine (C3.out _ HB.out).mono ?_); rintro e w1 ⟨rfl, hb⟩; have HB := hide hb; clear hb) | ((with_reducible refine (C4.out _ HB.out).mono ?_); rintro e w1 ⟨rfl, hb⟩; have HB := hide hb; clear hb) | ((with_reducible refine (K.out _ HB.out).mono ?_); rintro e w1 ⟨rfl, hb⟩; have HB := hide hb; clear hb))
  go_ret
  exact ⟨rfl, HB.out⟩

set_option maxRecDepth 100000 in
set_option maxHeartbeats 1000000 in
theorem places_64_64_s {W0 : World} {a x y u v : Nat} {sg : Bool} (F : (a : Int) / 4294967296 = 0)
    (C1 : Hide (∀ W, Below W0.heap.size W0 W → Calls Try.prog 4 #[.int .i64 64, .int .i64 64, .bool sg, .int .u64 (a : Int)] W fun e W' => e = .returned (.tuple #[.int .u64 (x : Int), .int .i64 0]) ∧ Below W0.heap.size W0 W'))
    (C2 : Hide (∀ W, Below W0.heap.size W0 W → Calls Try.prog 5 #[.int .i64 64, .int .i64 64, .bool sg, .int .u64 (a : Int)] W fun e W' => e = .returned (.tuple #[.int .u64 (y : Int), .int .i64 0]) ∧ Below W0.heap.size W0 W'))
    (C3 : Hide (∀ W, Below W0.heap.size W0 W → Calls Try.prog 6 #[.int .u64 (a : Int)] W fun e W' => e = .returned (.tuple #[.int .u64 (u : Int), .int .i64 0]) ∧ Below W0.heap.size W0 W'))
    (C4 : Hide (∀ W, Below W0.heap.size W0 W → Calls Try.prog 7 #[.int .u64 (a : Int)] W fun e W' => e = .returned (.tuple #[.int .u64 (v : Int), .int .i64 0]) ∧ Below W0.heap.size W0 W'))
    (K : Hide (∀ W, Below W0.heap.size W0 W → Calls Try.prog 8 #[] W fun e W' => e = .returned (.bool true) ∧ Below W0.heap.size W0 W')) (HB : Hide (Below W0.heap.size W0 W0)) :
    Calls Try.prog 3 #[.int .i64 64, .int .i64 64, .bool sg, .int .u64 (a : Int)] W0 fun e W' => e = .returned (.bool true) ∧ Below W0.heap.size W0 W' := by
  go_enter Try.func3, Try.ntmps3
  go_wp2_with (first | ((with_reducible refine (C1.out _ HB.out).mono ?_); rintro e w1 ⟨rfl, hb⟩; have HB := hide hb; clear hb) | ((with_reducible refine (C2.out _ HB.out).mono ?_); rintro e w1 ⟨rfl, hb⟩; have HB := hide hb; clear hb) | ((with_reducible refine (C3.out _ HB.out).mono ?_); rintro e w1 ⟨rfl, hb⟩; have HB := hide hb; clear hb) | ((with_reducible refine (C4.out _ HB.out).mono ?_); rintro e w1 ⟨rfl, hb⟩; have HB := hide hb; clear hb) | ((with_reducible refine (K.out _ HB.out).mono ?_); rintro e w1 ⟨rfl, hb⟩; have HB := hide hb; clear hb))
  go_ret
  exact ⟨rfl, HB.out⟩

set_option maxRecDepth 100000 in
set_option maxHeartbeats 1000000 in
theorem places_64_64_g {W0 : World} {a x y u v : Nat} {sg : Bool} (F : ((a : Int) / 4294967296 == 0) = false)
    (C1 : Hide (∀ W, Below W0.heap.size W0 W → Calls Try.prog 4 #[.int .i64 64, .int .i64 64, .bool sg, .int .u64 (a : Int)] W fun e W' => e = .returned (.tuple #[.int .u64 (x : Int), .int .i64 0]) ∧ Below W0.heap.size W0 W'))
    (C2 : Hide (∀ W, Below W0.heap.size W0 W → Calls Try.prog 5 #[.int .i64 64, .int .i64 64, .bool sg, .int .u64 (a : Int)] W fun e W' => e = .returned (.tuple #[.int .u64 (y : Int), .int .i64 0]) ∧ Below W0.heap.size W0 W'))
    (C3 : Hide (∀ W, Below W0.heap.size W0 W → Calls Try.prog 6 #[.int .u64 (a : Int)] W fun e W' => e = .returned (.tuple #[.int .u64 (u : Int), .int .i64 2]) ∧ Below W0.heap.size W0 W'))
    (C4 : Hide (∀ W, Below W0.heap.size W0 W → Calls Try.prog 7 #[.int .u64 (a : Int)] W fun e W' => e = .returned (.tuple #[.int .u64 (v : Int), .int .i64 0]) ∧ Below W0.heap.size W0 W'))
    (K : Hide (∀ W, Below W0.heap.size W0 W → Calls Try.prog 8 #[] W fun e W' => e = .returned (.bool true) ∧ Below W0.heap.size W0 W')) (HB : Hide (Below W0.heap.size W0 W0)) :
    Calls Try.prog 3 #[.int .i64 64, .int .i64 64, .bool sg, .int .u64 (a : Int)] W0 fun e W' => e = .returned (.bool true) ∧ Below W0.heap.size W0 W' := by
  go_enter Try.func3, Try.ntmps3
  go_wp2_with (first | ((with_reducible refine (C1.out _ HB.out).mono ?_); rintro e w1 ⟨rfl, hb⟩; have HB := hide hb; clear hb) | ((with_reducible refine (C2.out _ HB.out).mono ?_); rintro e w1 ⟨rfl, hb⟩; have HB := hide hb; clear hb) | ((with_reducible refine (C3.out _ HB.out).mono ?_); rintro e w1 ⟨rfl, hb⟩; have HB := hide hb; clear hb) | ((with_reducible refine (C4.out _ HB.out).mono ?_); rintro e w1 ⟨rfl, hb⟩; have HB := hide hb; clear hb) | ((with_reducible refine (K.out _ HB.out).mono ?_); rintro e w1 ⟨rfl, hb⟩; have HB := hide hb; clear hb))
  go_ret
  exact ⟨rfl, HB.out⟩

set_option maxRecDepth 100000 in
set_option maxHeartbeats 1000000 in
theorem places_64_x_s {W0 : World} {to : Int} {a x y u v : Nat} {sg : Bool} (t1 : (to == 32) = false) (t2 : (to == 64) = false) (F : (a : Int) / 4294967296 = 0)
    (C1 : Hide (∀ W, Below W0.heap.size W0 W → Calls Try.prog 4 #[.int .i64 64, .int .i64 to, .bool sg, .int .u64 (a : Int)] W fun e W' => e = .returned (.tuple #[.int .u64 (x : Int), .int .i64 2]) ∧ Below W0.heap.size W0 W'))
    (C2 : Hide (∀ W, Below W0.heap.size W0 W → Calls Try.prog 5 #[.int .i64 64, .int .i64 to, .bool sg, .int .u64 (a : Int)] W fun e W' => e = .returned (.tuple #[.int .u64 (y : Int), .int .i64 2]) ∧ Below W0.heap.size W0 W'))
    (C3 : Hide (∀ W, Below W0.heap.size W0 W → Calls Try.prog 6 #[.int .u64 (a : Int)] W fun e W' => e = .returned (.tuple #[.int .u64 (u : Int), .int .i64 0]) ∧ Below W0.heap.size W0 W'))
    (C4 : Hide (∀ W, Below W0.heap.size W0 W → Calls Try.prog 7 #[.int .u64 (a : Int)] W fun e W' => e = .returned (.tuple #[.int .u64 (v : Int), .int .i64 0]) ∧ Below W0.heap.size W0 W'))
    (K : Hide (∀ W, Below W0.heap.size W0 W → Calls Try.prog 8 #[] W fun e W' => e = .returned (.bool true) ∧ Below W0.heap.size W0 W')) (HB : Hide (Below W0.heap.size W0 W0)) :
    Calls Try.prog 3 #[.int .i64 64, .int .i64 to, .bool sg, .int .u64 (a : Int)] W0 fun e W' => e = .returned (.bool true) ∧ Below W0.heap.size W0 W' := by
  go_enter Try.func3, Try.ntmps3
  go_wp2_with (first | ((with_reducible refine (C1.out _ HB.out).mono ?_); rintro e w1 ⟨rfl, hb⟩; have HB := hide hb; clear hb) | ((with_reducible refine (C2.out _ HB.out).mono ?_); rintro e w1 ⟨rfl, hb⟩; have HB := hide hb; clear hb) | ((with_reducible refine (C3.out _ HB.out).mono ?_); rintro e w1 ⟨rfl, hb⟩; have HB := hide hb; clear hb) | ((with_reducible refine (C4.out _ HB.out).mono ?_); rintro e w1 ⟨rfl, hb⟩; have HB := hide hb; clear hb) | ((with_reducible refine (K.out _ HB.out).mono ?_); rintro e w1 ⟨rfl, hb⟩; have HB := hide hb; clear hb))
  go_ret
  exact ⟨rfl, HB.out⟩

set_option maxRecDepth 100000 in
set_option maxHeartbeats 1000000 in
theorem places_64_x_g {W0 : World} {to : Int} {a x y u v : Nat} {sg : Bool} (t1 : (to == 32) = false) (t2 : (to == 64) = false) (F : ((a : Int) / 4294967296 == 0) = false)
    (C1 : Hide (∀ W, Below W0.heap.size W0 W → Calls Try.prog 4 #[.int .i64 64, .int .i64 to, .bool sg, .int .u64 (a : Int)] W fun e W' => e = .returned (.tuple #[.int .u64 (x : Int), .int .i64 2]) ∧ Below W0.heap.size W0 W'))
    (C2 : Hide (∀ W, Below W0.heap.size W0 W → Calls Try.prog 5 #[.int .i64 64, .int .i64 to, .bool sg, .int .u64 (a : Int)] W fun e W' => e = .returned (.tuple #[.int .u64 (y : Int), .int .i64 2]) ∧ Below W0.heap.size W0 W'))
    (C3 : Hide (∀ W, Below W0.heap.size W0 W → Calls Try.prog 6 #[.int .u64 (a : Int)] W fun e W' => e = .returned (.tuple #[.int .u64 (u : Int), .int .i64 2]) ∧ Below W0.heap.size W0 W'))
    (C4 : Hide (∀ W, Below W0.heap.size W0 W → Calls Try.prog 7 #[.int .u64 (a : Int)] W fun e W' => e = .returned (.tuple #[.int .u64 (v : Int), .int .i64 0]) ∧ Below W0.heap.size W0 W'))
    (K : Hide (∀ W, Below W0.heap.size W0 W → Calls Try.prog 8 #[] W fun e W' => e = .returned (.bool true) ∧ Below W0.heap.size W0 W')) (HB : Hide (Below W0.heap.size W0 W0)) :
    Calls Try.prog 3 #[.int .i64 64, .int .i64 to, .bool sg, .int .u64 (a : Int)] W0 fun e W' => e = .returned (.bool true) ∧ Below W0.heap.size W0 W' := by
  go_enter Try.func3, Try.ntmps3
  go_wp2_with (first | ((with_reducible refine (C1.out _ HB.out).mono ?_); rintro e w1 ⟨rfl, hb⟩; have HB := hide hb; clear hb) | ((with_reducible refine (C2.out _ HB.out).mono ?_); rintro e w1 ⟨rfl, hb⟩; have HB := hide hb; clear hb) | ((with_reducible refine (C3.out _ HB.out).mono ?_); rintro e w1 ⟨rfl, hb⟩; have HB := hide hb; clear hb) | ((with_reducible refine (C4.out _ HB.out).mono ?_); rintro e w1 ⟨rfl, hb⟩; have HB := hide hb; clear hb) | ((with_reducible refine (K.out _ HB.out).mono ?_); rintro e w1 ⟨rfl, hb⟩; have HB := hide hb; clear hb))
  go_ret
  exact ⟨rfl, HB.out⟩

set_option maxRecDepth 100000 in
set_option maxHeartbeats 1000000 in
theorem places_x_32_s {W0 : World} {fr : Int} {a x y u v : Nat} {sg : Bool} (f1 : (fr == 32) = false) (f2 : (fr == 64) = false) (F : (a : Int) / 4294967296 = 0)
    (C1 : Hide (∀ W, Below W0.heap.size W0 W → Calls Try.prog 4 #[.int .i64 fr, .int .i64 32, .bool sg, .int .u64 (a : Int)] W fun e W' => e = .returned (.tuple #[.int .u64 (x : Int), .int .i64 2]) ∧ Below W0.heap.size W0 W'))
    (C2 : Hide (∀ W, Below W0.heap.size W0 W → Calls Try.prog 5 #[.int .i64 fr, .int .i64 32, .bool sg, .int .u64 (a : Int)] W fun e W' => e = .returned (.tuple #[.int .u64 (y : Int), .int .i64 2]) ∧ Below W0.heap.size W0 W'))
    (C3 : Hide (∀ W, Below W0.heap.size W0 W → Calls Try.prog 6 #[.int .u64 (a : Int)] W fun e W' => e = .returned (.tuple #[.int .u64 (u : Int), .int .i64 0]) ∧ Below W0.heap.size W0 W'))
    (C4 : Hide (∀ W, Below W0.heap.size W0 W → Calls Try.prog 7 #[.int .u64 (a : Int)] W fun e W' => e = .returned (.tuple #[.int .u64 (v : Int), .int .i64 0]) ∧ Below W0.heap.size W0 W'))
    (K : Hide (∀ W, Below W0.heap.size W0 W → Calls Try.prog 8 #[] W fun e W' => e = .returned (.bool true) ∧ Below W0.heap.size W0 W')) (HB : Hide (Below W0.heap.size W0 W0)) :
    Calls Try.prog 3 #[.int .i64 fr, .int .i64 32, .bool sg, .int .u64 (a : Int)] W0 fun e W' => e = .returned (.bool true) ∧ Below W0.heap.size W0 W' := by
  go_enter Try.func3, Try.ntmps3
  go_wp2_with (first | ((with_reducible refine (C1.out _ HB.out).mono ?_); rintro e w1 ⟨rfl, hb⟩; have HB := hide hb; clear hb) | ((with_reducible refine (C2.out _ HB.out).mono ?_); rintro e w1 ⟨rfl, hb⟩; have HB := hide hb; clear hb) | ((with_reducible refine (C3.out _ HB.out).mono ?_); rintro e w1 ⟨rfl, hb⟩; have HB := hide hb; clear hb) | ((with_reducible refine (C4.out _ HB.out).mono ?_); rintro e w1 ⟨rfl, hb⟩; have HB := hide hb; clear hb) | ((with_reducible refine (K.out _ HB.out).mono ?_); rintro e w1 ⟨rfl, hb⟩; have HB := hide hb; clear hb))
  go_ret
  exact ⟨rfl, HB.out⟩

set_option maxRecDepth 100000 in
set_option maxHeartbeats 1000000 in
theorem places_x_32_g {W0 : World} {fr : Int} {a x y u v : Nat} {sg : Bool} (f1 : (fr == 32) = false) (f2 : (fr == 64) = false) (F : ((a : Int) / 4294967296 == 0) = false)
    (C1 : Hide (∀ W, Below W0.heap.size W0 W → Calls Try.prog 4 #[.int .i64 fr, .int .i64 32, .bool sg, .int .u64 (a : Int)] W fun e W' => e = .returned (.tuple #[.int .u64 (x : Int), .int .i64 2]) ∧ Below W0.heap.size W0 W'))
    (C2 : Hide (∀ W, Below W0.heap.size W0 W → Calls Try.prog 5 #[.int .i64 fr, .int .i64 32, .bool sg, .int .u64 (a : Int)] W fun e W' => e = .returned (.tuple #[.int .u64 (y : Int), .int .i64 2]) ∧ Below W0.heap.size W0 W'))
    (C3 : Hide (∀ W, Below W0.heap.size W0 W → Calls Try.prog 6 #[.int .u64 (a : Int)] W fun e W' => e = .returned (.tuple #[.int .u64 (u : Int), .int .i64 2]) ∧ Below W0.heap.size W0 W'))
    (C4 : Hide (∀ W, Below W0.heap.size W0 W → Calls Try.prog 7 #[.int .u64 (a : Int)] W fun e W' => e = .returned (.tuple #[.int .u64 (v : Int), .int .i64 0]) ∧ Below W0.heap.size W0 W'))
    (K : Hide (∀ W, Below W0.heap.size W0 W → Calls Try.prog 8 #[] W fun e W' => e = .returned (.bool true) ∧ Below W0.heap.size W0 W')) (HB : Hide (Below W0.heap.size W0 W0)) :
    Calls Try.prog 3 #[.int .i64 fr, .int .i64 32, .bool sg, .int .u64 (a : Int)] W0 fun e W' => e = .returned (.bool true) ∧ Below W0.heap.size W0 W' := by
  go_enter Try.func3, Try.ntmps3
  go_wp2_with (first | ((with_reducible refine (C1.out _ HB.out).mono ?_); rintro e w1 ⟨rfl, hb⟩; have HB := hide hb; clear hb) | ((with_reducible refine (C2.out _ HB.out).mono ?_); rintro e w1 ⟨rfl, hb⟩; have HB := hide hb; clear hb) | ((with_reducible refine (C3.out _ HB.out).mono ?_); rintro e w1 ⟨rfl, hb⟩; have HB := hide hb; clear hb) | ((with_reducible refine (C4.out _ HB.out).mono ?_); rintro e w1 ⟨rfl, hb⟩; have HB := hide hb; clear hb) | ((with_reducible refine (K.out _ HB.out).mono ?_); rintro e w1 ⟨rfl, hb⟩; have HB := hide hb; clear hb))
  go_ret
  exact ⟨rfl, HB.out⟩

set_option maxRecDepth 100000 in
set_option maxHeartbeats 1000000 in
theorem places_x_64_s {W0 : World} {fr : Int} {a x y u v : Nat} {sg : Bool} (f1 : (fr == 32) = false) (f2 : (fr == 64) = false) (F : (a : Int) / 4294967296 = 0)
    (C1 : Hide (∀ W, Below W0.heap.size W0 W → Calls Try.prog 4 #[.int .i64 fr, .int .i64 64, .bool sg, .int .u64 (a : Int)] W fun e W' => e = .returned (.tuple #[.int .u64 (x : Int), .int .i64 2]) ∧ Below W0.heap.size W0 W'))
    (C2 : Hide (∀ W, Below W0.heap.size W0 W → Calls Try.prog 5 #[.int .i64 fr, .int .i64 64, .bool sg, .int .u64 (a : Int)] W fun e W' => e = .returned (.tuple #[.int .u64 (y : Int), .int .i64 2]) ∧ Below W0.heap.size W0 W'))
    (C3 : Hide (∀ W, Below W0.heap.size W0 W → Calls Try.prog 6 #[.int .u64 (a : Int)] W fun e W' => e = .returned (.tuple #[.int .u64 (u : Int), .int .i64 0]) ∧ Below W0.heap.size W0 W'))
    (C4 : Hide (∀ W, Below W0.heap.size W0 W → Calls Try.prog 7 #[.int .u64 (a : Int)] W fun e W' => e = .returned (.tuple #[.int .u64 (v : Int), .int .i64 0]) ∧ Below W0.heap.size W0 W'))
    (K : Hide (∀ W, Below W0.heap.size W0 W → Calls Try.prog 8 #[] W fun e W' => e = .returned (.bool true) ∧ Below W0.heap.size W0 W')) (HB : Hide (Below W0.heap.size W0 W0)) :
    Calls Try.prog 3 #[.int .i64 fr, .int .i64 64, .bool sg, .int .u64 (a : Int)] W0 fun e W' => e = .returned (.bool true) ∧ Below W0.heap.size W0 W' := by
  go_enter Try.func3, Try.ntmps3
  go_wp2_with (first | ((with_reducible refine (C1.out _ HB.out).mono ?_); rintro e w1 ⟨rfl, hb⟩; have HB := hide hb; clear hb) | ((with_reducible refine (C2.out _ HB.out).mono ?_); rintro e w1 ⟨rfl, hb⟩; have HB := hide hb; clear hb) | ((with_reducible refine (C3.out _ HB.out).mono ?_); rintro e w1 ⟨rfl, hb⟩; have HB := hide hb; clear hb) | ((with_reducible refine (C4.out _ HB.out).mono ?_); rintro e w1 ⟨rfl, hb⟩; have HB := hide hb; clear hb) | ((with_reducible refine (K.out _ HB.out).mono ?_); rintro e w1 ⟨rfl, hb⟩; have HB := hide hb; clear hb))
  go_ret
  exact ⟨rfl, HB.out⟩

set_option maxRecDepth 100000 in
set_option maxHeartbeats 1000000 in
theorem places_x_64_g {W0 : World} {fr : Int} {a x y u v : Nat} {sg : Bool} (f1 : (fr == 32) = false) (f2 : (fr == 64) = false) (F : ((a : Int) / 4294967296 == 0) = false)
    (C1 : Hide (∀ W, Below W0.heap.size W0 W → Calls Try.prog 4 #[.int .i64 fr, .int .i64 64, .bool sg, .int .u64 (a : Int)] W fun e W' => e = .returned (.tuple #[.int .u64 (x : Int), .int .i64 2]) ∧ Below W0.heap.size W0 W'))
    (C2 : Hide (∀ W, Below W0.heap.size W0 W → Calls Try.prog 5 #[.int .i64 fr, .int .i64 64, .bool sg, .int .u64 (a : Int)] W fun e W' => e = .returned (.tuple #[.int .u64 (y : Int), .int .i64 2]) ∧ Below W0.heap.size W0 W'))
    (C3 : Hide (∀ W, Below W0.heap.size W0 W → Calls Try.prog 6 #[.int .u64 (a : Int)] W fun e W' => e = .returned (.tuple #[.int .u64 (u : Int), .int .i64 2]) ∧ Below W0.heap.size W0 W'))
    (C4 : Hide (∀ W, Below W0.heap.size W0 W → Calls Try.prog 7 #[.int .u64 (a : Int)] W fun e W' => e = .returned (.tuple #[.int .u64 (v : Int), .int .i64 0]) ∧ Below W0.heap.size W0 W'))
    (K : Hide (∀ W, Below W0.heap.size W0 W → Calls Try.prog 8 #[] W fun e W' => e = .returned (.bool true) ∧ Below W0.heap.size W0 W')) (HB : Hide (Below W0.heap.size W0 W0)) :
    Calls Try.prog 3 #[.int .i64 fr, .int .i64 64, .bool sg, .int .u64 (a : Int)] W0 fun e W' => e = .returned (.bool true) ∧ Below W0.heap.size W0 W' := by
  go_enter Try.func3, Try.ntmps3
  go_wp2_with (first | ((with_reducible refine (C1.out _ HB.out).mono ?_); rintro e w1 ⟨rfl, hb⟩; have HB := hide hb; clear hb) | ((with_reducible refine (C2.out _ HB.out).mono ?_); rintro e w1 ⟨rfl, hb⟩; have HB := hide hb; clear hb) | ((with_reducible refine (C3.out _ HB.out).mono ?_); rintro e w1 ⟨rfl, hb⟩; have HB := hide hb; clear hb) | ((with_reducible refine (C4.out _ HB.out).mono ?_); rintro e w1 ⟨rfl, hb⟩; have HB := hide hb; clear hb) | ((with_reducible refine (K.out _ HB.out).mono ?_); rintro e w1 ⟨rfl, hb⟩; have HB := hide hb; clear hb))
  go_ret
  exact ⟨rfl, HB.out⟩

set_option maxRecDepth 100000 in
set_option maxHeartbeats 1000000 in
theorem places_x_x_s {W0 : World} {fr to : Int} {a x y u v : Nat} {sg : Bool} (f1 : (fr == 32) = false) (f2 : (fr == 64) = false) (t1 : (to == 32) = false) (t2 : (to == 64) = false) (F : (a : Int) / 4294967296 = 0)
    (C1 : Hide (∀ W, Below W0.heap.size W0 W → Calls Try.prog 4 #[.int .i64 fr, .int .i64 to, .bool sg, .int .u64 (a : Int)] W fun e W' => e = .returned (.tuple #[.int .u64 (x : Int), .int .i64 2]) ∧ Below W0.heap.size W0 W'))
    (C2 : Hide (∀ W, Below W0.heap.size W0 W → Calls Try.prog 5 #[.int .i64 fr, .int .i64 to, .bool sg, .int .u64 (a : Int)] W fun e W' => e = .returned (.tuple #[.int .u64 (y : Int), .int .i64 2]) ∧ Below W0.heap.size W0 W'))
    (C3 : Hide (∀ W, Below W0.heap.size W0 W → Calls Try.prog 6 #[.int .u64 (a : Int)] W fun e W' => e = .returned (.tuple #[.int .u64 (u : Int), .int .i64 0]) ∧ Below W0.heap.size W0 W'))
    (C4 : Hide (∀ W, Below W0.heap.size W0 W → Calls Try.prog 7 #[.int .u64 (a : Int)] W fun e W' => e = .returned (.tuple #[.int .u64 (v : Int), .int .i64 0]) ∧ Below W0.heap.size W0 W'))
    (K : Hide (∀ W, Below W0.heap.size W0 W → Calls Try.prog 8 #[] W fun e W' => e = .returned (.bool true) ∧ Below W0.heap.size W0 W')) (HB : Hide (Below W0.heap.size W0 W0)) :
    Calls Try.prog 3 #[.int .i64 fr, .int .i64 to, .bool sg, .int .u64 (a : Int)] W0 fun e W' => e = .returned (.bool true) ∧ Below W0.heap.size W0 W' := by
  go_enter Try.func3, Try.ntmps3
  go_wp2_with (first | ((with_reducible refine (C1.out _ HB.out).mono ?_); rintro e w1 ⟨rfl, hb⟩; have HB := hide hb; clear hb) | ((with_reducible refine (C2.out _ HB.out).mono ?_); rintro e w1 ⟨rfl, hb⟩; have HB := hide hb; clear hb) | ((with_reducible refine (C3.out _ HB.out).mono ?_); rintro e w1 ⟨rfl, hb⟩; have HB := hide hb; clear hb) | ((with_reducible refine (C4.out _ HB.out).mono ?_); rintro e w1 ⟨rfl, hb⟩; have HB := hide hb; clear hb) | ((with_reducible refine (K.out _ HB.out).mono ?_); rintro e w1 ⟨rfl, hb⟩; have HB := hide hb; clear hb))
  go_ret
  exact ⟨rfl, HB.out⟩

set_option maxRecDepth 100000 in
set_option maxHeartbeats 1000000 in
theorem places_x_x_g {W0 : World} {fr to : Int} {a x y u v : Nat} {sg : Bool} (f1 : (fr == 32) = false) (f2 : (fr == 64) = false) (t1 : (to == 32) = false) (t2 : (to == 64) = false) (F : ((a : Int) / 4294967296 == 0) = false)
    (C1 : Hide (∀ W, Below W0.heap.size W0 W → Calls Try.prog 4 #[.int .i64 fr, .int .i64 to, .bool sg, .int .u64 (a : Int)] W fun e W' => e = .returned (.tuple #[.int .u64 (x : Int), .int .i64 2]) ∧ Below W0.heap.size W0 W'))
    (C2 : Hide (∀ W, Below W0.heap.size W0 W → Calls Try.prog 5 #[.int .i64 fr, .int .i64 to, .bool sg, .int .u64 (a : Int)] W fun e W' => e = .returned (.tuple #[.int .u64 (y : Int), .int .i64 2]) ∧ Below W0.heap.size W0 W'))
    (C3 : Hide (∀ W, Below W0.heap.size W0 W → Calls Try.prog 6 #[.int .u64 (a : Int)] W fun e W' => e = .returned (.tuple #[.int .u64 (u : Int), .int .i64 2]) ∧ Below W0.heap.size W0 W'))
    (C4 : Hide (∀ W, Below W0.heap.size W0 W → Calls Try.prog 7 #[.int .u64 (a : Int)] W fun e W' => e = .returned (.tuple #[.int .u64 (v : Int), .int .i64 0]) ∧ Below W0.heap.size W0 W'))
    (K : Hide (∀ W, Below W0.heap.size W0 W → Calls Try.prog 8 #[] W fun e W' => e = .returned (.bool true) ∧ Below W0.heap.size W0 W')) (HB : Hide (Below W0.heap.size W0 W0)) :
    Calls Try.prog 3 #[.int .i64 fr, .int .i64 to, .bool sg, .int .u64 (a : Int)] W0 fun e W' => e = .returned (.bool true) ∧ Below W0.heap.size W0 W' := by
  go_enter Try.func3, Try.ntmps3
  go_wp2_with (first | ((with_reducible refine (C1.out _ HB.out).mono ?_); rintro e w1 ⟨rfl, hb⟩; have HB := hide hb; clear hb) | ((with_reducible refine (C2.out _ HB.out).mono ?_); rintro e w1 ⟨rfl, hb⟩; have HB := hide hb; clear hb) | ((with_reducible refine (C3.out _ HB.out).mono ?_); rintro e w1 ⟨rfl, hb⟩; have HB := hide hb; clear hb) | ((with_reducible refine (C4.out _ HB.out).mono ?_); rintro e w1 ⟨rfl, hb⟩; have HB := hide hb; clear hb) | ((with_reducible refine (K.out _ HB.out).mono ?_); rintro e w1 ⟨rfl, hb⟩; have HB := hide hb; clear hb))
  go_ret
  exact ⟨rfl, HB.out⟩

theorem ConvsPlaces_calls (fr to : Int) (sg : Bool) (a : Int) (w3 : (Lit.int .u64 a).wf = true) (W : World) :
    Calls Try.prog 3 #[.int .i64 fr, .int .i64 to, .bool sg, .int .u64 a] W fun e W' => e = .returned (.bool true) ∧ Below W.heap.size W W' := by
  obtain ⟨a, rfl, ha⟩ := wf64' w3
  have K := hide (@works_calls W)
  have HB := hide (Below.refl W.heap.size W)
  have C4 := hide (@dem_from W a ha _ rfl)
  have okh : okC fr to a = true → ∃ x y : Nat, heldF fr to sg a = (x, 0) ∧ fltF fr to sg a = (y, 0) := fun h => by
    refine ⟨(cutN fr.toNat to.toNat sg a).1, fltN fr.toNat to.toNat sg a, ?_, ?_⟩
    · unfold heldF; rw [if_pos h]
    · unfold fltF; rw [if_pos h]
  have noh : okC fr to a = false → heldF fr to sg a = (0, 2) ∧ fltF fr to sg a = (0, 2) := fun h => by
    refine ⟨?_, ?_⟩
    · unfold heldF; rw [h]; rfl
    · unfold fltF; rw [h]; rfl
  by_cases p : a ≤ 4294967295
  · have F : (a : Int) / 4294967296 = 0 := by omega
    have hp : promF a = (promN a, 0) := by unfold promF; rw [if_pos p]
    have C3 := hide (@prom_from W a ha _ _ hp)
    by_cases f1 : fr = 32
    · subst f1
      by_cases t1 : to = 32
      · subst t1
        obtain ⟨x, y, h1, h2⟩ := okh (by simp [okC, okW, isW, p])
        have C1 := hide (@held_from W _ _ sg a ha _ _ h1)
        have C2 := hide (@float_from W _ _ sg a ha _ _ h2)
        exact places_32_32_s F C1 C2 C3 C4 K HB
      · by_cases t2 : to = 64
        · subst t2
          obtain ⟨x, y, h1, h2⟩ := okh (by simp [okC, okW, isW, p])
          have C1 := hide (@held_from W _ _ sg a ha _ _ h1)
          have C2 := hide (@float_from W _ _ sg a ha _ _ h2)
          exact places_32_64_s F C1 C2 C3 C4 K HB
        · obtain ⟨h1, h2⟩ := noh (by simp [okC, okW, isW, t1, t2])
          have C1 := hide (@held_from W _ _ sg a ha _ _ h1)
          have C2 := hide (@float_from W _ _ sg a ha _ _ h2)
          exact places_32_x_s (by simp [t1]) (by simp [t2]) F C1 C2 C3 C4 K HB
    · by_cases f2 : fr = 64
      · subst f2
        by_cases t1 : to = 32
        · subst t1
          obtain ⟨x, y, h1, h2⟩ := okh (by simp [okC, okW, isW])
          have C1 := hide (@held_from W _ _ sg a ha _ _ h1)
          have C2 := hide (@float_from W _ _ sg a ha _ _ h2)
          exact places_64_32_s F C1 C2 C3 C4 K HB
        · by_cases t2 : to = 64
          · subst t2
            obtain ⟨x, y, h1, h2⟩ := okh (by simp [okC, okW, isW])
            have C1 := hide (@held_from W _ _ sg a ha _ _ h1)
            have C2 := hide (@float_from W _ _ sg a ha _ _ h2)
            exact places_64_64_s F C1 C2 C3 C4 K HB
          · obtain ⟨h1, h2⟩ := noh (by simp [okC, okW, isW, t1, t2])
            have C1 := hide (@held_from W _ _ sg a ha _ _ h1)
            have C2 := hide (@float_from W _ _ sg a ha _ _ h2)
            exact places_64_x_s (by simp [t1]) (by simp [t2]) F C1 C2 C3 C4 K HB
      · by_cases t1 : to = 32
        · subst t1
          obtain ⟨h1, h2⟩ := noh (by simp [okC, okW, isW, f1, f2])
          have C1 := hide (@held_from W _ _ sg a ha _ _ h1)
          have C2 := hide (@float_from W _ _ sg a ha _ _ h2)
          exact places_x_32_s (by simp [f1]) (by simp [f2]) F C1 C2 C3 C4 K HB
        · by_cases t2 : to = 64
          · subst t2
            obtain ⟨h1, h2⟩ := noh (by simp [okC, okW, isW, f1, f2])
            have C1 := hide (@held_from W _ _ sg a ha _ _ h1)
            have C2 := hide (@float_from W _ _ sg a ha _ _ h2)
            exact places_x_64_s (by simp [f1]) (by simp [f2]) F C1 C2 C3 C4 K HB
          · obtain ⟨h1, h2⟩ := noh (by simp [okC, okW, isW, f1, f2, t1, t2])
            have C1 := hide (@held_from W _ _ sg a ha _ _ h1)
            have C2 := hide (@float_from W _ _ sg a ha _ _ h2)
            exact places_x_x_s (by simp [f1]) (by simp [f2]) (by simp [t1]) (by simp [t2]) F C1 C2 C3 C4 K HB
  · have F : ((a : Int) / 4294967296 == 0) = false := by simp; omega
    have hp : promF a = (0, 2) := by unfold promF; rw [if_neg p]
    have C3 := hide (@prom_from W a ha _ _ hp)
    by_cases f1 : fr = 32
    · subst f1
      by_cases t1 : to = 32
      · subst t1
        obtain ⟨h1, h2⟩ := noh (by simp [okC, okW, isW]; omega)
        have C1 := hide (@held_from W _ _ sg a ha _ _ h1)
        have C2 := hide (@float_from W _ _ sg a ha _ _ h2)
        exact places_32_32_g F C1 C2 C3 C4 K HB
      · by_cases t2 : to = 64
        · subst t2
          obtain ⟨h1, h2⟩ := noh (by simp [okC, okW, isW]; omega)
          have C1 := hide (@held_from W _ _ sg a ha _ _ h1)
          have C2 := hide (@float_from W _ _ sg a ha _ _ h2)
          exact places_32_64_g F C1 C2 C3 C4 K HB
        · obtain ⟨h1, h2⟩ := noh (by simp [okC, okW, isW, t1, t2])
          have C1 := hide (@held_from W _ _ sg a ha _ _ h1)
          have C2 := hide (@float_from W _ _ sg a ha _ _ h2)
          exact places_32_x_g (by simp [t1]) (by simp [t2]) F C1 C2 C3 C4 K HB
    · by_cases f2 : fr = 64
      · subst f2
        by_cases t1 : to = 32
        · subst t1
          obtain ⟨x, y, h1, h2⟩ := okh (by simp [okC, okW, isW])
          have C1 := hide (@held_from W _ _ sg a ha _ _ h1)
          have C2 := hide (@float_from W _ _ sg a ha _ _ h2)
          exact places_64_32_g F C1 C2 C3 C4 K HB
        · by_cases t2 : to = 64
          · subst t2
            obtain ⟨x, y, h1, h2⟩ := okh (by simp [okC, okW, isW])
            have C1 := hide (@held_from W _ _ sg a ha _ _ h1)
            have C2 := hide (@float_from W _ _ sg a ha _ _ h2)
            exact places_64_64_g F C1 C2 C3 C4 K HB
          · obtain ⟨h1, h2⟩ := noh (by simp [okC, okW, isW, t1, t2])
            have C1 := hide (@held_from W _ _ sg a ha _ _ h1)
            have C2 := hide (@float_from W _ _ sg a ha _ _ h2)
            exact places_64_x_g (by simp [t1]) (by simp [t2]) F C1 C2 C3 C4 K HB
      · by_cases t1 : to = 32
        · subst t1
          obtain ⟨h1, h2⟩ := noh (by simp [okC, okW, isW, f1, f2])
          have C1 := hide (@held_from W _ _ sg a ha _ _ h1)
          have C2 := hide (@float_from W _ _ sg a ha _ _ h2)
          exact places_x_32_g (by simp [f1]) (by simp [f2]) F C1 C2 C3 C4 K HB
        · by_cases t2 : to = 64
          · subst t2
            obtain ⟨h1, h2⟩ := noh (by simp [okC, okW, isW, f1, f2])
            have C1 := hide (@held_from W _ _ sg a ha _ _ h1)
            have C2 := hide (@float_from W _ _ sg a ha _ _ h2)
            exact places_x_64_g (by simp [f1]) (by simp [f2]) F C1 C2 C3 C4 K HB
          · obtain ⟨h1, h2⟩ := noh (by simp [okC, okW, isW, f1, f2, t1, t2])
            have C1 := hide (@held_from W _ _ sg a ha _ _ h1)
            have C2 := hide (@float_from W _ _ sg a ha _ _ h2)
            exact places_x_x_g (by simp [f1]) (by simp [f2]) (by simp [t1]) (by simp [t2]) F C1 C2 C3 C4 K HB
end Go.Proofs.Ytfahogbiekmdfab
