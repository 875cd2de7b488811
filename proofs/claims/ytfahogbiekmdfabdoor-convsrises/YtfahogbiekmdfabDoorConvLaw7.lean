/-
  ConvsRises, ConvsSigns (genlaw7.py wrote it).
-/
import Derived.Test.YtfahogbiekmdfabDoorConvLaw4
import Derived.Test.YtfahogbiekmdfabDoorZIntsThan
set_option linter.unusedVariables false
set_option linter.unusedSimpArgs false
namespace Go.Proofs.YtfahogbiekmdfabDoor
open Go.RowKit Flo

theorem zW {w : Nat} (h : IsW w) : Ints.IsW w := by
  rcases h with rfl | rfl
  · exact .inr (.inr (.inl rfl))
  · exact .inr (.inr (.inr rfl))
theorem zOf {w a : Nat} (h : a < 2 ^ w) : Z.Of w (a : Int) := ⟨by omega, by exact_mod_cast h⟩
theorem wo_val {w a : Nat} (hw : IsW w) (ha : a < 2 ^ w) : Ints.wo w (a : Int) = valI w true a := by
  unfold Ints.wo valI negOf magOf sgn
  rcases hw with rfl | rfl
  · by_cases c : 2147483648 ≤ a
    · rw [if_neg (by show ¬ (a : Int) < 2147483648; omega)]; simp [c]; omega
    · rw [if_pos (by show (a : Int) < 2147483648; omega)]; simp [c]
  · by_cases c : 9223372036854775808 ≤ a
    · rw [if_neg (by show ¬ (a : Int) < 9223372036854775808; omega)]; simp [c]; omega
    · rw [if_pos (by show (a : Int) < 9223372036854775808; omega)]; simp [c]

def leOp (sg : Bool) : Int := if sg then 39 else 38
theorem ithan_from {W0 : World} (hT : WTabs W0) {w a b : Nat} (hw : IsW w) (sg : Bool) (ha : a < 2 ^ w) (hb : b < 2 ^ w) {x : Bool} (hx : decide (valI w sg a ≤ valI w sg b) = x) (W : World) (hB : Below W0.heap.size W0 W) :
    Calls Tryd.prog 7 #[.int .u8 (leOp sg), .int .i64 (w : Int), .int .u64 (a : Int), .int .u64 (b : Int)] W fun r W' => r = .returned (.tuple #[.bool x, .int .i64 0]) ∧ Below W0.heap.size W0 W' := by
  have h := Z.Than_calls (zW hw) (leOp sg) (a : Int) (b : Int) (by cases sg <;> decide) (zOf ha) (zOf hb) W (hT.later hB)
  have e : Z.than (leOp sg).toNat w (a : Int) (b : Int) = (x, 0) := by
    rw [← hx]
    cases sg
    · show (decide ((a : Int) ≤ (b : Int)), (0 : Int)) = _
      rw [← val_u, ← val_u]
    · show (decide (Ints.wo w (a : Int) ≤ Ints.wo w (b : Int)), (0 : Int)) = _
      rw [wo_val hw ha, wo_val hw hb]
  rw [e] at h
  exact h.mono fun e W' ⟨he, hk⟩ => ⟨he, below_two hB hk⟩

def leF (w a b : Nat) : Bool := lessN w a b || sameN w a b
theorem leF_is {w a b : Nat} : leF w a b = (!na w a && !na w b && decide (place (fm w) a ≤ place (fm w) b)) := by
  unfold leF lessN sameN
  cases na w a <;> cases na w b <;> simp
  rcases Int.lt_trichotomy (place (fm w) a) (place (fm w) b) with c | c | c
  · simp [c]; omega
  · simp [c]
  · rw [decide_eq_false (by omega), decide_eq_false (by omega), decide_eq_false (by omega)]; rfl
theorem fthan_from {W0 : World} {w a b : Nat} (hw : IsW w) (ha : a < 2 ^ w) (hb : b < 2 ^ w) {x : Bool} (hx : leF w a b = x) (W : World) (hB : Below W0.heap.size W0 W) :
    Calls Tryd.prog 9 #[.int .u8 21, .int .i64 (w : Int), .int .u64 (a : Int), .int .u64 (b : Int)] W fun r W' => r = .returned (.tuple #[.bool x, .int .i64 0]) ∧ Below W0.heap.size W0 W' := by
  have h := Than_calls hw 21 ha hb W
  have e : than 21 w a b = (x, 0) := by rw [← hx]; rfl
  rw [e] at h
  exact h.mono fun e W' ⟨he, hk⟩ => ⟨he, below_two hB hk⟩

set_option maxRecDepth 100000 in
set_option maxHeartbeats 2000000 in
theorem rises_false_false_false {W0 : World} {f t n m a b a1 b1 x y u v : Nat} {up ri : Bool}
    (A1 : Hide (∀ W, Calls Tryd.prog 5 #[.int .u8 (n : Int)] W fun e W' => e = .returned (.int .i64 (f : Int)) ∧ W' = W)) (A2 : Hide (∀ W, Calls Tryd.prog 5 #[.int .u8 (m : Int)] W fun e W' => e = .returned (.int .i64 (t : Int)) ∧ W' = W))
    (O1 : Hide (∀ W, Calls Tryd.prog 6 #[.int .i64 (f : Int), .int .u64 (a : Int)] W fun e W' => e = .returned (.int .u64 (a1 : Int)) ∧ W' = W))
    (O2 : Hide (∀ W, Calls Tryd.prog 6 #[.int .i64 (f : Int), .int .u64 (b : Int)] W fun e W' => e = .returned (.int .u64 (b1 : Int)) ∧ W' = W))
    (L1 : Hide (∀ W, Below W0.heap.size W0 W → Calls Tryd.prog 7 #[.int .u8 38, .int .i64 (f : Int), .int .u64 (a1 : Int), .int .u64 (b1 : Int)] W fun r W' => r = .returned (.tuple #[.bool false, .int .i64 0]) ∧ Below W0.heap.size W0 W'))
    (F1 : Hide (∀ W, Below W0.heap.size W0 W → Calls Tryd.prog 8 #[.int .i64 (f : Int), .int .i64 (t : Int), .bool false, .int .u64 (a1 : Int)] W fun e W' => e = .returned (.tuple #[.int .u64 (x : Int), .int .i64 0]) ∧ Below W0.heap.size W0 W'))
    (F2 : Hide (∀ W, Below W0.heap.size W0 W → Calls Tryd.prog 8 #[.int .i64 (f : Int), .int .i64 (t : Int), .bool false, .int .u64 (b1 : Int)] W fun e W' => e = .returned (.tuple #[.int .u64 (y : Int), .int .i64 0]) ∧ Below W0.heap.size W0 W'))
    (T1 : Hide (∀ W, Below W0.heap.size W0 W → Calls Tryd.prog 9 #[.int .u8 21, .int .i64 (t : Int), .int .u64 (x : Int), .int .u64 (y : Int)] W fun r W' => r = .returned (.tuple #[.bool up, .int .i64 0]) ∧ Below W0.heap.size W0 W'))
    (T2 : Hide (∀ W, Below W0.heap.size W0 W → Calls Tryd.prog 9 #[.int .u8 21, .int .i64 (f : Int), .int .u64 (a1 : Int), .int .u64 (b1 : Int)] W fun r W' => r = .returned (.tuple #[.bool false, .int .i64 0]) ∧ Below W0.heap.size W0 W'))
    (C1 : Hide (∀ W, Below W0.heap.size W0 W → Calls Tryd.prog 10 #[.int .i64 (f : Int), .int .i64 (t : Int), .bool false, .int .u64 (a1 : Int)] W fun e W' => e = .returned (.tuple #[.int .u64 (u : Int), .int .i64 0]) ∧ Below W0.heap.size W0 W'))
    (C2 : Hide (∀ W, Below W0.heap.size W0 W → Calls Tryd.prog 10 #[.int .i64 (f : Int), .int .i64 (t : Int), .bool false, .int .u64 (b1 : Int)] W fun e W' => e = .returned (.tuple #[.int .u64 (v : Int), .int .i64 0]) ∧ Below W0.heap.size W0 W'))
    (L2 : Hide (∀ W, Below W0.heap.size W0 W → Calls Tryd.prog 7 #[.int .u8 38, .int .i64 (t : Int), .int .u64 (u : Int), .int .u64 (v : Int)] W fun r W' => r = .returned (.tuple #[.bool ri, .int .i64 0]) ∧ Below W0.heap.size W0 W'))
    (K : Hide (∀ W, Below W0.heap.size W0 W → Calls Tryd.prog 11 #[] W fun e W' => e = .returned (.bool true) ∧ Below W0.heap.size W0 W')) (HB : Hide (Below W0.heap.size W0 W0)) :
    Calls Tryd.prog 3 #[.int .u8 (n : Int), .int .u8 (m : Int), .bool false, .int .u64 (a : Int), .int .u64 (b : Int)] W0 fun e W' => e = .returned (.bool true) ∧ Below W0.heap.size W0 W' := by
  go_enter Tryd.func3, Tryd.ntmps3
  go_wp2_with (first | ((with_reducible refine (A1.out _).mono ?_); rintro e w1 ⟨rfl, rfl⟩) | ((with_reducible refine (A2.out _).mono ?_); rintro e w1 ⟨rfl, rfl⟩) | ((with_reducible refine (O1.out _).mono ?_); rintro e w1 ⟨rfl, rfl⟩) | ((with_reducible refine (O2.out _).mono ?_); rintro e w1 ⟨rfl, rfl⟩) | ((with_reducible refine (L1.out _ HB.out).mono ?_); rintro e w1 ⟨rfl, hb⟩; have HB := hide hb; clear hb) | ((with_reducible refine (F1.out _ HB.out).mono ?_); rintro e w1 ⟨rfl, hb⟩; have HB := hide hb; clear hb) | ((with_reducible refine (F2.out _ HB.out).mono ?_); rintro e w1 ⟨rfl, hb⟩; have HB := hide hb; clear hb) | ((with_reducible refine (T1.out _ HB.out).mono ?_); rintro e w1 ⟨rfl, hb⟩; have HB := hide hb; clear hb) | ((with_reducible refine (T2.out _ HB.out).mono ?_); rintro e w1 ⟨rfl, hb⟩; have HB := hide hb; clear hb) | ((with_reducible refine (C1.out _ HB.out).mono ?_); rintro e w1 ⟨rfl, hb⟩; have HB := hide hb; clear hb) | ((with_reducible refine (C2.out _ HB.out).mono ?_); rintro e w1 ⟨rfl, hb⟩; have HB := hide hb; clear hb) | ((with_reducible refine (L2.out _ HB.out).mono ?_); rintro e w1 ⟨rfl, hb⟩; have HB := hide hb; clear hb) | ((with_reducible refine (K.out _ HB.out).mono ?_); rintro e w1 ⟨rfl, hb⟩; have HB := hide hb; clear hb))
  go_ret
  exact ⟨rfl, HB.out⟩

set_option maxRecDepth 100000 in
set_option maxHeartbeats 2000000 in
theorem rises_false_false_true {W0 : World} {f t n m a b a1 b1 x y u v : Nat} {up ri : Bool}
    (A1 : Hide (∀ W, Calls Tryd.prog 5 #[.int .u8 (n : Int)] W fun e W' => e = .returned (.int .i64 (f : Int)) ∧ W' = W)) (A2 : Hide (∀ W, Calls Tryd.prog 5 #[.int .u8 (m : Int)] W fun e W' => e = .returned (.int .i64 (t : Int)) ∧ W' = W))
    (O1 : Hide (∀ W, Calls Tryd.prog 6 #[.int .i64 (f : Int), .int .u64 (a : Int)] W fun e W' => e = .returned (.int .u64 (a1 : Int)) ∧ W' = W))
    (O2 : Hide (∀ W, Calls Tryd.prog 6 #[.int .i64 (f : Int), .int .u64 (b : Int)] W fun e W' => e = .returned (.int .u64 (b1 : Int)) ∧ W' = W))
    (L1 : Hide (∀ W, Below W0.heap.size W0 W → Calls Tryd.prog 7 #[.int .u8 38, .int .i64 (f : Int), .int .u64 (a1 : Int), .int .u64 (b1 : Int)] W fun r W' => r = .returned (.tuple #[.bool false, .int .i64 0]) ∧ Below W0.heap.size W0 W'))
    (F1 : Hide (∀ W, Below W0.heap.size W0 W → Calls Tryd.prog 8 #[.int .i64 (f : Int), .int .i64 (t : Int), .bool false, .int .u64 (a1 : Int)] W fun e W' => e = .returned (.tuple #[.int .u64 (x : Int), .int .i64 0]) ∧ Below W0.heap.size W0 W'))
    (F2 : Hide (∀ W, Below W0.heap.size W0 W → Calls Tryd.prog 8 #[.int .i64 (f : Int), .int .i64 (t : Int), .bool false, .int .u64 (b1 : Int)] W fun e W' => e = .returned (.tuple #[.int .u64 (y : Int), .int .i64 0]) ∧ Below W0.heap.size W0 W'))
    (T1 : Hide (∀ W, Below W0.heap.size W0 W → Calls Tryd.prog 9 #[.int .u8 21, .int .i64 (t : Int), .int .u64 (x : Int), .int .u64 (y : Int)] W fun r W' => r = .returned (.tuple #[.bool up, .int .i64 0]) ∧ Below W0.heap.size W0 W'))
    (T2 : Hide (∀ W, Below W0.heap.size W0 W → Calls Tryd.prog 9 #[.int .u8 21, .int .i64 (f : Int), .int .u64 (a1 : Int), .int .u64 (b1 : Int)] W fun r W' => r = .returned (.tuple #[.bool true, .int .i64 0]) ∧ Below W0.heap.size W0 W'))
    (C1 : Hide (∀ W, Below W0.heap.size W0 W → Calls Tryd.prog 10 #[.int .i64 (f : Int), .int .i64 (t : Int), .bool false, .int .u64 (a1 : Int)] W fun e W' => e = .returned (.tuple #[.int .u64 (u : Int), .int .i64 0]) ∧ Below W0.heap.size W0 W'))
    (C2 : Hide (∀ W, Below W0.heap.size W0 W → Calls Tryd.prog 10 #[.int .i64 (f : Int), .int .i64 (t : Int), .bool false, .int .u64 (b1 : Int)] W fun e W' => e = .returned (.tuple #[.int .u64 (v : Int), .int .i64 0]) ∧ Below W0.heap.size W0 W'))
    (L2 : Hide (∀ W, Below W0.heap.size W0 W → Calls Tryd.prog 7 #[.int .u8 38, .int .i64 (t : Int), .int .u64 (u : Int), .int .u64 (v : Int)] W fun r W' => r = .returned (.tuple #[.bool true, .int .i64 0]) ∧ Below W0.heap.size W0 W'))
    (K : Hide (∀ W, Below W0.heap.size W0 W → Calls Tryd.prog 11 #[] W fun e W' => e = .returned (.bool true) ∧ Below W0.heap.size W0 W')) (HB : Hide (Below W0.heap.size W0 W0)) :
    Calls Tryd.prog 3 #[.int .u8 (n : Int), .int .u8 (m : Int), .bool false, .int .u64 (a : Int), .int .u64 (b : Int)] W0 fun e W' => e = .returned (.bool true) ∧ Below W0.heap.size W0 W' := by
  go_enter Tryd.func3, Tryd.ntmps3
  go_wp2_with (first | ((with_reducible refine (A1.out _).mono ?_); rintro e w1 ⟨rfl, rfl⟩) | ((with_reducible refine (A2.out _).mono ?_); rintro e w1 ⟨rfl, rfl⟩) | ((with_reducible refine (O1.out _).mono ?_); rintro e w1 ⟨rfl, rfl⟩) | ((with_reducible refine (O2.out _).mono ?_); rintro e w1 ⟨rfl, rfl⟩) | ((with_reducible refine (L1.out _ HB.out).mono ?_); rintro e w1 ⟨rfl, hb⟩; have HB := hide hb; clear hb) | ((with_reducible refine (F1.out _ HB.out).mono ?_); rintro e w1 ⟨rfl, hb⟩; have HB := hide hb; clear hb) | ((with_reducible refine (F2.out _ HB.out).mono ?_); rintro e w1 ⟨rfl, hb⟩; have HB := hide hb; clear hb) | ((with_reducible refine (T1.out _ HB.out).mono ?_); rintro e w1 ⟨rfl, hb⟩; have HB := hide hb; clear hb) | ((with_reducible refine (T2.out _ HB.out).mono ?_); rintro e w1 ⟨rfl, hb⟩; have HB := hide hb; clear hb) | ((with_reducible refine (C1.out _ HB.out).mono ?_); rintro e w1 ⟨rfl, hb⟩; have HB := hide hb; clear hb) | ((with_reducible refine (C2.out _ HB.out).mono ?_); rintro e w1 ⟨rfl, hb⟩; have HB := hide hb; clear hb) | ((with_reducible refine (L2.out _ HB.out).mono ?_); rintro e w1 ⟨rfl, hb⟩; have HB := hide hb; clear hb) | ((with_reducible refine (K.out _ HB.out).mono ?_); rintro e w1 ⟨rfl, hb⟩; have HB := hide hb; clear hb))
  go_ret
  exact ⟨rfl, HB.out⟩

set_option maxRecDepth 100000 in
set_option maxHeartbeats 2000000 in
theorem rises_false_true_false {W0 : World} {f t n m a b a1 b1 x y u v : Nat} {up ri : Bool}
    (A1 : Hide (∀ W, Calls Tryd.prog 5 #[.int .u8 (n : Int)] W fun e W' => e = .returned (.int .i64 (f : Int)) ∧ W' = W)) (A2 : Hide (∀ W, Calls Tryd.prog 5 #[.int .u8 (m : Int)] W fun e W' => e = .returned (.int .i64 (t : Int)) ∧ W' = W))
    (O1 : Hide (∀ W, Calls Tryd.prog 6 #[.int .i64 (f : Int), .int .u64 (a : Int)] W fun e W' => e = .returned (.int .u64 (a1 : Int)) ∧ W' = W))
    (O2 : Hide (∀ W, Calls Tryd.prog 6 #[.int .i64 (f : Int), .int .u64 (b : Int)] W fun e W' => e = .returned (.int .u64 (b1 : Int)) ∧ W' = W))
    (L1 : Hide (∀ W, Below W0.heap.size W0 W → Calls Tryd.prog 7 #[.int .u8 38, .int .i64 (f : Int), .int .u64 (a1 : Int), .int .u64 (b1 : Int)] W fun r W' => r = .returned (.tuple #[.bool true, .int .i64 0]) ∧ Below W0.heap.size W0 W'))
    (F1 : Hide (∀ W, Below W0.heap.size W0 W → Calls Tryd.prog 8 #[.int .i64 (f : Int), .int .i64 (t : Int), .bool false, .int .u64 (a1 : Int)] W fun e W' => e = .returned (.tuple #[.int .u64 (x : Int), .int .i64 0]) ∧ Below W0.heap.size W0 W'))
    (F2 : Hide (∀ W, Below W0.heap.size W0 W → Calls Tryd.prog 8 #[.int .i64 (f : Int), .int .i64 (t : Int), .bool false, .int .u64 (b1 : Int)] W fun e W' => e = .returned (.tuple #[.int .u64 (y : Int), .int .i64 0]) ∧ Below W0.heap.size W0 W'))
    (T1 : Hide (∀ W, Below W0.heap.size W0 W → Calls Tryd.prog 9 #[.int .u8 21, .int .i64 (t : Int), .int .u64 (x : Int), .int .u64 (y : Int)] W fun r W' => r = .returned (.tuple #[.bool true, .int .i64 0]) ∧ Below W0.heap.size W0 W'))
    (T2 : Hide (∀ W, Below W0.heap.size W0 W → Calls Tryd.prog 9 #[.int .u8 21, .int .i64 (f : Int), .int .u64 (a1 : Int), .int .u64 (b1 : Int)] W fun r W' => r = .returned (.tuple #[.bool false, .int .i64 0]) ∧ Below W0.heap.size W0 W'))
    (C1 : Hide (∀ W, Below W0.heap.size W0 W → Calls Tryd.prog 10 #[.int .i64 (f : Int), .int .i64 (t : Int), .bool false, .int .u64 (a1 : Int)] W fun e W' => e = .returned (.tuple #[.int .u64 (u : Int), .int .i64 0]) ∧ Below W0.heap.size W0 W'))
    (C2 : Hide (∀ W, Below W0.heap.size W0 W → Calls Tryd.prog 10 #[.int .i64 (f : Int), .int .i64 (t : Int), .bool false, .int .u64 (b1 : Int)] W fun e W' => e = .returned (.tuple #[.int .u64 (v : Int), .int .i64 0]) ∧ Below W0.heap.size W0 W'))
    (L2 : Hide (∀ W, Below W0.heap.size W0 W → Calls Tryd.prog 7 #[.int .u8 38, .int .i64 (t : Int), .int .u64 (u : Int), .int .u64 (v : Int)] W fun r W' => r = .returned (.tuple #[.bool ri, .int .i64 0]) ∧ Below W0.heap.size W0 W'))
    (K : Hide (∀ W, Below W0.heap.size W0 W → Calls Tryd.prog 11 #[] W fun e W' => e = .returned (.bool true) ∧ Below W0.heap.size W0 W')) (HB : Hide (Below W0.heap.size W0 W0)) :
    Calls Tryd.prog 3 #[.int .u8 (n : Int), .int .u8 (m : Int), .bool false, .int .u64 (a : Int), .int .u64 (b : Int)] W0 fun e W' => e = .returned (.bool true) ∧ Below W0.heap.size W0 W' := by
  go_enter Tryd.func3, Tryd.ntmps3
  go_wp2_with (first | ((with_reducible refine (A1.out _).mono ?_); rintro e w1 ⟨rfl, rfl⟩) | ((with_reducible refine (A2.out _).mono ?_); rintro e w1 ⟨rfl, rfl⟩) | ((with_reducible refine (O1.out _).mono ?_); rintro e w1 ⟨rfl, rfl⟩) | ((with_reducible refine (O2.out _).mono ?_); rintro e w1 ⟨rfl, rfl⟩) | ((with_reducible refine (L1.out _ HB.out).mono ?_); rintro e w1 ⟨rfl, hb⟩; have HB := hide hb; clear hb) | ((with_reducible refine (F1.out _ HB.out).mono ?_); rintro e w1 ⟨rfl, hb⟩; have HB := hide hb; clear hb) | ((with_reducible refine (F2.out _ HB.out).mono ?_); rintro e w1 ⟨rfl, hb⟩; have HB := hide hb; clear hb) | ((with_reducible refine (T1.out _ HB.out).mono ?_); rintro e w1 ⟨rfl, hb⟩; have HB := hide hb; clear hb) | ((with_reducible refine (T2.out _ HB.out).mono ?_); rintro e w1 ⟨rfl, hb⟩; have HB := hide hb; clear hb) | ((with_reducible refine (C1.out _ HB.out).mono ?_); rintro e w1 ⟨rfl, hb⟩; have HB := hide hb; clear hb) | ((with_reducible refine (C2.out _ HB.out).mono ?_); rintro e w1 ⟨rfl, hb⟩; have HB := hide hb; clear hb) | ((with_reducible refine (L2.out _ HB.out).mono ?_); rintro e w1 ⟨rfl, hb⟩; have HB := hide hb; clear hb) | ((with_reducible refine (K.out _ HB.out).mono ?_); rintro e w1 ⟨rfl, hb⟩; have HB := hide hb; clear hb))
  go_ret
  exact ⟨rfl, HB.out⟩

set_option maxRecDepth 100000 in
set_option maxHeartbeats 2000000 in
theorem rises_false_true_true {W0 : World} {f t n m a b a1 b1 x y u v : Nat} {up ri : Bool}
    (A1 : Hide (∀ W, Calls Tryd.prog 5 #[.int .u8 (n : Int)] W fun e W' => e = .returned (.int .i64 (f : Int)) ∧ W' = W)) (A2 : Hide (∀ W, Calls Tryd.prog 5 #[.int .u8 (m : Int)] W fun e W' => e = .returned (.int .i64 (t : Int)) ∧ W' = W))
    (O1 : Hide (∀ W, Calls Tryd.prog 6 #[.int .i64 (f : Int), .int .u64 (a : Int)] W fun e W' => e = .returned (.int .u64 (a1 : Int)) ∧ W' = W))
    (O2 : Hide (∀ W, Calls Tryd.prog 6 #[.int .i64 (f : Int), .int .u64 (b : Int)] W fun e W' => e = .returned (.int .u64 (b1 : Int)) ∧ W' = W))
    (L1 : Hide (∀ W, Below W0.heap.size W0 W → Calls Tryd.prog 7 #[.int .u8 38, .int .i64 (f : Int), .int .u64 (a1 : Int), .int .u64 (b1 : Int)] W fun r W' => r = .returned (.tuple #[.bool true, .int .i64 0]) ∧ Below W0.heap.size W0 W'))
    (F1 : Hide (∀ W, Below W0.heap.size W0 W → Calls Tryd.prog 8 #[.int .i64 (f : Int), .int .i64 (t : Int), .bool false, .int .u64 (a1 : Int)] W fun e W' => e = .returned (.tuple #[.int .u64 (x : Int), .int .i64 0]) ∧ Below W0.heap.size W0 W'))
    (F2 : Hide (∀ W, Below W0.heap.size W0 W → Calls Tryd.prog 8 #[.int .i64 (f : Int), .int .i64 (t : Int), .bool false, .int .u64 (b1 : Int)] W fun e W' => e = .returned (.tuple #[.int .u64 (y : Int), .int .i64 0]) ∧ Below W0.heap.size W0 W'))
    (T1 : Hide (∀ W, Below W0.heap.size W0 W → Calls Tryd.prog 9 #[.int .u8 21, .int .i64 (t : Int), .int .u64 (x : Int), .int .u64 (y : Int)] W fun r W' => r = .returned (.tuple #[.bool true, .int .i64 0]) ∧ Below W0.heap.size W0 W'))
    (T2 : Hide (∀ W, Below W0.heap.size W0 W → Calls Tryd.prog 9 #[.int .u8 21, .int .i64 (f : Int), .int .u64 (a1 : Int), .int .u64 (b1 : Int)] W fun r W' => r = .returned (.tuple #[.bool true, .int .i64 0]) ∧ Below W0.heap.size W0 W'))
    (C1 : Hide (∀ W, Below W0.heap.size W0 W → Calls Tryd.prog 10 #[.int .i64 (f : Int), .int .i64 (t : Int), .bool false, .int .u64 (a1 : Int)] W fun e W' => e = .returned (.tuple #[.int .u64 (u : Int), .int .i64 0]) ∧ Below W0.heap.size W0 W'))
    (C2 : Hide (∀ W, Below W0.heap.size W0 W → Calls Tryd.prog 10 #[.int .i64 (f : Int), .int .i64 (t : Int), .bool false, .int .u64 (b1 : Int)] W fun e W' => e = .returned (.tuple #[.int .u64 (v : Int), .int .i64 0]) ∧ Below W0.heap.size W0 W'))
    (L2 : Hide (∀ W, Below W0.heap.size W0 W → Calls Tryd.prog 7 #[.int .u8 38, .int .i64 (t : Int), .int .u64 (u : Int), .int .u64 (v : Int)] W fun r W' => r = .returned (.tuple #[.bool true, .int .i64 0]) ∧ Below W0.heap.size W0 W'))
    (K : Hide (∀ W, Below W0.heap.size W0 W → Calls Tryd.prog 11 #[] W fun e W' => e = .returned (.bool true) ∧ Below W0.heap.size W0 W')) (HB : Hide (Below W0.heap.size W0 W0)) :
    Calls Tryd.prog 3 #[.int .u8 (n : Int), .int .u8 (m : Int), .bool false, .int .u64 (a : Int), .int .u64 (b : Int)] W0 fun e W' => e = .returned (.bool true) ∧ Below W0.heap.size W0 W' := by
  go_enter Tryd.func3, Tryd.ntmps3
  go_wp2_with (first | ((with_reducible refine (A1.out _).mono ?_); rintro e w1 ⟨rfl, rfl⟩) | ((with_reducible refine (A2.out _).mono ?_); rintro e w1 ⟨rfl, rfl⟩) | ((with_reducible refine (O1.out _).mono ?_); rintro e w1 ⟨rfl, rfl⟩) | ((with_reducible refine (O2.out _).mono ?_); rintro e w1 ⟨rfl, rfl⟩) | ((with_reducible refine (L1.out _ HB.out).mono ?_); rintro e w1 ⟨rfl, hb⟩; have HB := hide hb; clear hb) | ((with_reducible refine (F1.out _ HB.out).mono ?_); rintro e w1 ⟨rfl, hb⟩; have HB := hide hb; clear hb) | ((with_reducible refine (F2.out _ HB.out).mono ?_); rintro e w1 ⟨rfl, hb⟩; have HB := hide hb; clear hb) | ((with_reducible refine (T1.out _ HB.out).mono ?_); rintro e w1 ⟨rfl, hb⟩; have HB := hide hb; clear hb) | ((with_reducible refine (T2.out _ HB.out).mono ?_); rintro e w1 ⟨rfl, hb⟩; have HB := hide hb; clear hb) | ((with_reducible refine (C1.out _ HB.out).mono ?_); rintro e w1 ⟨rfl, hb⟩; have HB := hide hb; clear hb) | ((with_reducible refine (C2.out _ HB.out).mono ?_); rintro e w1 ⟨rfl, hb⟩; have HB := hide hb; clear hb) | ((with_reducible refine (L2.out _ HB.out).mono ?_); rintro e w1 ⟨rfl, hb⟩; have HB := hide hb; clear hb) | ((with_reducible refine (K.out _ HB.out).mono ?_); rintro e w1 ⟨rfl, hb⟩; have HB := hide hb; clear hb))
  go_ret
  exact ⟨rfl, HB.out⟩

set_option maxRecDepth 100000 in
set_option maxHeartbeats 2000000 in
theorem rises_true_false_false {W0 : World} {f t n m a b a1 b1 x y u v : Nat} {up ri : Bool}
    (A1 : Hide (∀ W, Calls Tryd.prog 5 #[.int .u8 (n : Int)] W fun e W' => e = .returned (.int .i64 (f : Int)) ∧ W' = W)) (A2 : Hide (∀ W, Calls Tryd.prog 5 #[.int .u8 (m : Int)] W fun e W' => e = .returned (.int .i64 (t : Int)) ∧ W' = W))
    (O1 : Hide (∀ W, Calls Tryd.prog 6 #[.int .i64 (f : Int), .int .u64 (a : Int)] W fun e W' => e = .returned (.int .u64 (a1 : Int)) ∧ W' = W))
    (O2 : Hide (∀ W, Calls Tryd.prog 6 #[.int .i64 (f : Int), .int .u64 (b : Int)] W fun e W' => e = .returned (.int .u64 (b1 : Int)) ∧ W' = W))
    (L1 : Hide (∀ W, Below W0.heap.size W0 W → Calls Tryd.prog 7 #[.int .u8 39, .int .i64 (f : Int), .int .u64 (a1 : Int), .int .u64 (b1 : Int)] W fun r W' => r = .returned (.tuple #[.bool false, .int .i64 0]) ∧ Below W0.heap.size W0 W'))
    (F1 : Hide (∀ W, Below W0.heap.size W0 W → Calls Tryd.prog 8 #[.int .i64 (f : Int), .int .i64 (t : Int), .bool true, .int .u64 (a1 : Int)] W fun e W' => e = .returned (.tuple #[.int .u64 (x : Int), .int .i64 0]) ∧ Below W0.heap.size W0 W'))
    (F2 : Hide (∀ W, Below W0.heap.size W0 W → Calls Tryd.prog 8 #[.int .i64 (f : Int), .int .i64 (t : Int), .bool true, .int .u64 (b1 : Int)] W fun e W' => e = .returned (.tuple #[.int .u64 (y : Int), .int .i64 0]) ∧ Below W0.heap.size W0 W'))
    (T1 : Hide (∀ W, Below W0.heap.size W0 W → Calls Tryd.prog 9 #[.int .u8 21, .int .i64 (t : Int), .int .u64 (x : Int), .int .u64 (y : Int)] W fun r W' => r = .returned (.tuple #[.bool up, .int .i64 0]) ∧ Below W0.heap.size W0 W'))
    (T2 : Hide (∀ W, Below W0.heap.size W0 W → Calls Tryd.prog 9 #[.int .u8 21, .int .i64 (f : Int), .int .u64 (a1 : Int), .int .u64 (b1 : Int)] W fun r W' => r = .returned (.tuple #[.bool false, .int .i64 0]) ∧ Below W0.heap.size W0 W'))
    (C1 : Hide (∀ W, Below W0.heap.size W0 W → Calls Tryd.prog 10 #[.int .i64 (f : Int), .int .i64 (t : Int), .bool true, .int .u64 (a1 : Int)] W fun e W' => e = .returned (.tuple #[.int .u64 (u : Int), .int .i64 0]) ∧ Below W0.heap.size W0 W'))
    (C2 : Hide (∀ W, Below W0.heap.size W0 W → Calls Tryd.prog 10 #[.int .i64 (f : Int), .int .i64 (t : Int), .bool true, .int .u64 (b1 : Int)] W fun e W' => e = .returned (.tuple #[.int .u64 (v : Int), .int .i64 0]) ∧ Below W0.heap.size W0 W'))
    (L2 : Hide (∀ W, Below W0.heap.size W0 W → Calls Tryd.prog 7 #[.int .u8 39, .int .i64 (t : Int), .int .u64 (u : Int), .int .u64 (v : Int)] W fun r W' => r = .returned (.tuple #[.bool ri, .int .i64 0]) ∧ Below W0.heap.size W0 W'))
    (K : Hide (∀ W, Below W0.heap.size W0 W → Calls Tryd.prog 11 #[] W fun e W' => e = .returned (.bool true) ∧ Below W0.heap.size W0 W')) (HB : Hide (Below W0.heap.size W0 W0)) :
    Calls Tryd.prog 3 #[.int .u8 (n : Int), .int .u8 (m : Int), .bool true, .int .u64 (a : Int), .int .u64 (b : Int)] W0 fun e W' => e = .returned (.bool true) ∧ Below W0.heap.size W0 W' := by
  go_enter Tryd.func3, Tryd.ntmps3
  go_wp2_with (first | ((with_reducible refine (A1.out _).mono ?_); rintro e w1 ⟨rfl, rfl⟩) | ((with_reducible refine (A2.out _).mono ?_); rintro e w1 ⟨rfl, rfl⟩) | ((with_reducible refine (O1.out _).mono ?_); rintro e w1 ⟨rfl, rfl⟩) | ((with_reducible refine (O2.out _).mono ?_); rintro e w1 ⟨rfl, rfl⟩) | ((with_reducible refine (L1.out _ HB.out).mono ?_); rintro e w1 ⟨rfl, hb⟩; have HB := hide hb; clear hb) | ((with_reducible refine (F1.out _ HB.out).mono ?_); rintro e w1 ⟨rfl, hb⟩; have HB := hide hb; clear hb) | ((with_reducible refine (F2.out _ HB.out).mono ?_); rintro e w1 ⟨rfl, hb⟩; have HB := hide hb; clear hb) | ((with_reducible refine (T1.out _ HB.out).mono ?_); rintro e w1 ⟨rfl, hb⟩; have HB := hide hb; clear hb) | ((with_reducible refine (T2.out _ HB.out).mono ?_); rintro e w1 ⟨rfl, hb⟩; have HB := hide hb; clear hb) | ((with_reducible refine (C1.out _ HB.out).mono ?_); rintro e w1 ⟨rfl, hb⟩; have HB := hide hb; clear hb) | ((with_reducible refine (C2.out _ HB.out).mono ?_); rintro e w1 ⟨rfl, hb⟩; have HB := hide hb; clear hb) | ((with_reducible refine (L2.out _ HB.out).mono ?_); rintro e w1 ⟨rfl, hb⟩; have HB := hide hb; clear hb) | ((with_reducible refine (K.out _ HB.out).mono ?_); rintro e w1 ⟨rfl, hb⟩; have HB := hide hb; clear hb))
  go_ret
  exact ⟨rfl, HB.out⟩

set_option maxRecDepth 100000 in
set_option maxHeartbeats 2000000 in
theorem rises_true_false_true {W0 : World} {f t n m a b a1 b1 x y u v : Nat} {up ri : Bool}
    (A1 : Hide (∀ W, Calls Tryd.prog 5 #[.int .u8 (n : Int)] W fun e W' => e = .returned (.int .i64 (f : Int)) ∧ W' = W)) (A2 : Hide (∀ W, Calls Tryd.prog 5 #[.int .u8 (m : Int)] W fun e W' => e = .returned (.int .i64 (t : Int)) ∧ W' = W))
    (O1 : Hide (∀ W, Calls Tryd.prog 6 #[.int .i64 (f : Int), .int .u64 (a : Int)] W fun e W' => e = .returned (.int .u64 (a1 : Int)) ∧ W' = W))
    (O2 : Hide (∀ W, Calls Tryd.prog 6 #[.int .i64 (f : Int), .int .u64 (b : Int)] W fun e W' => e = .returned (.int .u64 (b1 : Int)) ∧ W' = W))
    (L1 : Hide (∀ W, Below W0.heap.size W0 W → Calls Tryd.prog 7 #[.int .u8 39, .int .i64 (f : Int), .int .u64 (a1 : Int), .int .u64 (b1 : Int)] W fun r W' => r = .returned (.tuple #[.bool false, .int .i64 0]) ∧ Below W0.heap.size W0 W'))
    (F1 : Hide (∀ W, Below W0.heap.size W0 W → Calls Tryd.prog 8 #[.int .i64 (f : Int), .int .i64 (t : Int), .bool true, .int .u64 (a1 : Int)] W fun e W' => e = .returned (.tuple #[.int .u64 (x : Int), .int .i64 0]) ∧ Below W0.heap.size W0 W'))
    (F2 : Hide (∀ W, Below W0.heap.size W0 W → Calls Tryd.prog 8 #[.int .i64 (f : Int), .int .i64 (t : Int), .bool true, .int .u64 (b1 : Int)] W fun e W' => e = .returned (.tuple #[.int .u64 (y : Int), .int .i64 0]) ∧ Below W0.heap.size W0 W'))
    (T1 : Hide (∀ W, Below W0.heap.size W0 W → Calls Tryd.prog 9 #[.int .u8 21, .int .i64 (t : Int), .int .u64 (x : Int), .int .u64 (y : Int)] W fun r W' => r = .returned (.tuple #[.bool up, .int .i64 0]) ∧ Below W0.heap.size W0 W'))
    (T2 : Hide (∀ W, Below W0.heap.size W0 W → Calls Tryd.prog 9 #[.int .u8 21, .int .i64 (f : Int), .int .u64 (a1 : Int), .int .u64 (b1 : Int)] W fun r W' => r = .returned (.tuple #[.bool true, .int .i64 0]) ∧ Below W0.heap.size W0 W'))
    (C1 : Hide (∀ W, Below W0.heap.size W0 W → Calls Tryd.prog 10 #[.int .i64 (f : Int), .int .i64 (t : Int), .bool true, .int .u64 (a1 : Int)] W fun e W' => e = .returned (.tuple #[.int .u64 (u : Int), .int .i64 0]) ∧ Below W0.heap.size W0 W'))
    (C2 : Hide (∀ W, Below W0.heap.size W0 W → Calls Tryd.prog 10 #[.int .i64 (f : Int), .int .i64 (t : Int), .bool true, .int .u64 (b1 : Int)] W fun e W' => e = .returned (.tuple #[.int .u64 (v : Int), .int .i64 0]) ∧ Below W0.heap.size W0 W'))
    (L2 : Hide (∀ W, Below W0.heap.size W0 W → Calls Tryd.prog 7 #[.int .u8 39, .int .i64 (t : Int), .int .u64 (u : Int), .int .u64 (v : Int)] W fun r W' => r = .returned (.tuple #[.bool true, .int .i64 0]) ∧ Below W0.heap.size W0 W'))
    (K : Hide (∀ W, Below W0.heap.size W0 W → Calls Tryd.prog 11 #[] W fun e W' => e = .returned (.bool true) ∧ Below W0.heap.size W0 W')) (HB : Hide (Below W0.heap.size W0 W0)) :
    Calls Tryd.prog 3 #[.int .u8 (n : Int), .int .u8 (m : Int), .bool true, .int .u64 (a : Int), .int .u64 (b : Int)] W0 fun e W' => e = .returned (.bool true) ∧ Below W0.heap.size W0 W' := by
  go_enter Tryd.func3, Tryd.ntmps3
  go_wp2_with (first | ((with_reducible refine (A1.out _).mono ?_); rintro e w1 ⟨rfl, rfl⟩) | ((with_reducible refine (A2.out _).mono ?_); rintro e w1 ⟨rfl, rfl⟩) | ((with_reducible refine (O1.out _).mono ?_); rintro e w1 ⟨rfl, rfl⟩) | ((with_reducible refine (O2.out _).mono ?_); rintro e w1 ⟨rfl, rfl⟩) | ((with_reducible refine (L1.out _ HB.out).mono ?_); rintro e w1 ⟨rfl, hb⟩; have HB := hide hb; clear hb) | ((with_reducible refine (F1.out _ HB.out).mono ?_); rintro e w1 ⟨rfl, hb⟩; have HB := hide hb; clear hb) | ((with_reducible refine (F2.out _ HB.out).mono ?_); rintro e w1 ⟨rfl, hb⟩; have HB := hide hb; clear hb) | ((with_reducible refine (T1.out _ HB.out).mono ?_); rintro e w1 ⟨rfl, hb⟩; have HB := hide hb; clear hb) | ((with_reducible refine (T2.out _ HB.out).mono ?_); rintro e w1 ⟨rfl, hb⟩; have HB := hide hb; clear hb) | ((with_reducible refine (C1.out _ HB.out).mono ?_); rintro e w1 ⟨rfl, hb⟩; have HB := hide hb; clear hb) | ((with_reducible refine (C2.out _ HB.out).mono ?_); rintro e w1 ⟨rfl, hb⟩; have HB := hide hb; clear hb) | ((with_reducible refine (L2.out _ HB.out).mono ?_); rintro e w1 ⟨rfl, hb⟩; have HB := hide hb; clear hb) | ((with_reducible refine (K.out _ HB.out).mono ?_); rintro e w1 ⟨rfl, hb⟩; have HB := hide hb; clear hb))
  go_ret
  exact ⟨rfl, HB.out⟩

set_option maxRecDepth 100000 in
set_option maxHeartbeats 2000000 in
theorem rises_true_true_false {W0 : World} {f t n m a b a1 b1 x y u v : Nat} {up ri : Bool}
    (A1 : Hide (∀ W, Calls Tryd.prog 5 #[.int .u8 (n : Int)] W fun e W' => e = .returned (.int .i64 (f : Int)) ∧ W' = W)) (A2 : Hide (∀ W, Calls Tryd.prog 5 #[.int .u8 (m : Int)] W fun e W' => e = .returned (.int .i64 (t : Int)) ∧ W' = W))
    (O1 : Hide (∀ W, Calls Tryd.prog 6 #[.int .i64 (f : Int), .int .u64 (a : Int)] W fun e W' => e = .returned (.int .u64 (a1 : Int)) ∧ W' = W))
    (O2 : Hide (∀ W, Calls Tryd.prog 6 #[.int .i64 (f : Int), .int .u64 (b : Int)] W fun e W' => e = .returned (.int .u64 (b1 : Int)) ∧ W' = W))
    (L1 : Hide (∀ W, Below W0.heap.size W0 W → Calls Tryd.prog 7 #[.int .u8 39, .int .i64 (f : Int), .int .u64 (a1 : Int), .int .u64 (b1 : Int)] W fun r W' => r = .returned (.tuple #[.bool true, .int .i64 0]) ∧ Below W0.heap.size W0 W'))
    (F1 : Hide (∀ W, Below W0.heap.size W0 W → Calls Tryd.prog 8 #[.int .i64 (f : Int), .int .i64 (t : Int), .bool true, .int .u64 (a1 : Int)] W fun e W' => e = .returned (.tuple #[.int .u64 (x : Int), .int .i64 0]) ∧ Below W0.heap.size W0 W'))
    (F2 : Hide (∀ W, Below W0.heap.size W0 W → Calls Tryd.prog 8 #[.int .i64 (f : Int), .int .i64 (t : Int), .bool true, .int .u64 (b1 : Int)] W fun e W' => e = .returned (.tuple #[.int .u64 (y : Int), .int .i64 0]) ∧ Below W0.heap.size W0 W'))
    (T1 : Hide (∀ W, Below W0.heap.size W0 W → Calls Tryd.prog 9 #[.int .u8 21, .int .i64 (t : Int), .int .u64 (x : Int), .int .u64 (y : Int)] W fun r W' => r = .returned (.tuple #[.bool true, .int .i64 0]) ∧ Below W0.heap.size W0 W'))
    (T2 : Hide (∀ W, Below W0.heap.size W0 W → Calls Tryd.prog 9 #[.int .u8 21, .int .i64 (f : Int), .int .u64 (a1 : Int), .int .u64 (b1 : Int)] W fun r W' => r = .returned (.tuple #[.bool false, .int .i64 0]) ∧ Below W0.heap.size W0 W'))
    (C1 : Hide (∀ W, Below W0.heap.size W0 W → Calls Tryd.prog 10 #[.int .i64 (f : Int), .int .i64 (t : Int), .bool true, .int .u64 (a1 : Int)] W fun e W' => e = .returned (.tuple #[.int .u64 (u : Int), .int .i64 0]) ∧ Below W0.heap.size W0 W'))
    (C2 : Hide (∀ W, Below W0.heap.size W0 W → Calls Tryd.prog 10 #[.int .i64 (f : Int), .int .i64 (t : Int), .bool true, .int .u64 (b1 : Int)] W fun e W' => e = .returned (.tuple #[.int .u64 (v : Int), .int .i64 0]) ∧ Below W0.heap.size W0 W'))
    (L2 : Hide (∀ W, Below W0.heap.size W0 W → Calls Tryd.prog 7 #[.int .u8 39, .int .i64 (t : Int), .int .u64 (u : Int), .int .u64 (v : Int)] W fun r W' => r = .returned (.tuple #[.bool ri, .int .i64 0]) ∧ Below W0.heap.size W0 W'))
    (K : Hide (∀ W, Below W0.heap.size W0 W → Calls Tryd.prog 11 #[] W fun e W' => e = .returned (.bool true) ∧ Below W0.heap.size W0 W')) (HB : Hide (Below W0.heap.size W0 W0)) :
    Calls Tryd.prog 3 #[.int .u8 (n : Int), .int .u8 (m : Int), .bool true, .int .u64 (a : Int), .int .u64 (b : Int)] W0 fun e W' => e = .returned (.bool true) ∧ Below W0.heap.size W0 W' := by
  go_enter Tryd.func3, Tryd.ntmps3
  go_wp2_with (first | ((with_reducible refine (A1.out _).mono ?_); rintro e w1 ⟨rfl, rfl⟩) | ((with_reducible refine (A2.out _).mono ?_); rintro e w1 ⟨rfl, rfl⟩) | ((with_reducible refine (O1.out _).mono ?_); rintro e w1 ⟨rfl, rfl⟩) | ((with_reducible refine (O2.out _).mono ?_); rintro e w1 ⟨rfl, rfl⟩) | ((with_reducible refine (L1.out _ HB.out).mono ?_); rintro e w1 ⟨rfl, hb⟩; have HB := hide hb; clear hb) | ((with_reducible refine (F1.out _ HB.out).mono ?_); rintro e w1 ⟨rfl, hb⟩; have HB := hide hb; clear hb) | ((with_reducible refine (F2.out _ HB.out).mono ?_); rintro e w1 ⟨rfl, hb⟩; have HB := hide hb; clear hb) | ((with_reducible refine (T1.out _ HB.out).mono ?_); rintro e w1 ⟨rfl, hb⟩; have HB := hide hb; clear hb) | ((with_reducible refine (T2.out _ HB.out).mono ?_); rintro e w1 ⟨rfl, hb⟩; have HB := hide hb; clear hb) | ((with_reducible refine (C1.out _ HB.out).mono ?_); rintro e w1 ⟨rfl, hb⟩; have HB := hide hb; clear hb) | ((with_reducible refine (C2.out _ HB.out).mono ?_); rintro e w1 ⟨rfl, hb⟩; have HB := hide hb; clear hb) | ((with_reducible refine (L2.out _ HB.out).mono ?_); rintro e w1 ⟨rfl, hb⟩; have HB := hide hb; clear hb) | ((with_reducible refine (K.out _ HB.out).mono ?_); rintro e w1 ⟨rfl, hb⟩; have HB := hide hb; clear hb))
  go_ret
  exact ⟨rfl, HB.out⟩

set_option maxRecDepth 100000 in
set_option maxHeartbeats 2000000 in
theorem rises_true_true_true {W0 : World} {f t n m a b a1 b1 x y u v : Nat} {up ri : Bool}
    (A1 : Hide (∀ W, Calls Tryd.prog 5 #[.int .u8 (n : Int)] W fun e W' => e = .returned (.int .i64 (f : Int)) ∧ W' = W)) (A2 : Hide (∀ W, Calls Tryd.prog 5 #[.int .u8 (m : Int)] W fun e W' => e = .returned (.int .i64 (t : Int)) ∧ W' = W))
    (O1 : Hide (∀ W, Calls Tryd.prog 6 #[.int .i64 (f : Int), .int .u64 (a : Int)] W fun e W' => e = .returned (.int .u64 (a1 : Int)) ∧ W' = W))
    (O2 : Hide (∀ W, Calls Tryd.prog 6 #[.int .i64 (f : Int), .int .u64 (b : Int)] W fun e W' => e = .returned (.int .u64 (b1 : Int)) ∧ W' = W))
    (L1 : Hide (∀ W, Below W0.heap.size W0 W → Calls Tryd.prog 7 #[.int .u8 39, .int .i64 (f : Int), .int .u64 (a1 : Int), .int .u64 (b1 : Int)] W fun r W' => r = .returned (.tuple #[.bool true, .int .i64 0]) ∧ Below W0.heap.size W0 W'))
    (F1 : Hide (∀ W, Below W0.heap.size W0 W → Calls Tryd.prog 8 #[.int .i64 (f : Int), .int .i64 (t : Int), .bool true, .int .u64 (a1 : Int)] W fun e W' => e = .returned (.tuple #[.int .u64 (x : Int), .int .i64 0]) ∧ Below W0.heap.size W0 W'))
    (F2 : Hide (∀ W, Below W0.heap.size W0 W → Calls Tryd.prog 8 #[.int .i64 (f : Int), .int .i64 (t : Int), .bool true, .int .u64 (b1 : Int)] W fun e W' => e = .returned (.tuple #[.int .u64 (y : Int), .int .i64 0]) ∧ Below W0.heap.size W0 W'))
    (T1 : Hide (∀ W, Below W0.heap.size W0 W → Calls Tryd.prog 9 #[.int .u8 21, .int .i64 (t : Int), .int .u64 (x : Int), .int .u64 (y : Int)] W fun r W' => r = .returned (.tuple #[.bool true, .int .i64 0]) ∧ Below W0.heap.size W0 W'))
    (T2 : Hide (∀ W, Below W0.heap.size W0 W → Calls Tryd.prog 9 #[.int .u8 21, .int .i64 (f : Int), .int .u64 (a1 : Int), .int .u64 (b1 : Int)] W fun r W' => r = .returned (.tuple #[.bool true, .int .i64 0]) ∧ Below W0.heap.size W0 W'))
    (C1 : Hide (∀ W, Below W0.heap.size W0 W → Calls Tryd.prog 10 #[.int .i64 (f : Int), .int .i64 (t : Int), .bool true, .int .u64 (a1 : Int)] W fun e W' => e = .returned (.tuple #[.int .u64 (u : Int), .int .i64 0]) ∧ Below W0.heap.size W0 W'))
    (C2 : Hide (∀ W, Below W0.heap.size W0 W → Calls Tryd.prog 10 #[.int .i64 (f : Int), .int .i64 (t : Int), .bool true, .int .u64 (b1 : Int)] W fun e W' => e = .returned (.tuple #[.int .u64 (v : Int), .int .i64 0]) ∧ Below W0.heap.size W0 W'))
    (L2 : Hide (∀ W, Below W0.heap.size W0 W → Calls Tryd.prog 7 #[.int .u8 39, .int .i64 (t : Int), .int .u64 (u : Int), .int .u64 (v : Int)] W fun r W' => r = .returned (.tuple #[.bool true, .int .i64 0]) ∧ Below W0.heap.size W0 W'))
    (K : Hide (∀ W, Below W0.heap.size W0 W → Calls Tryd.prog 11 #[] W fun e W' => e = .returned (.bool true) ∧ Below W0.heap.size W0 W')) (HB : Hide (Below W0.heap.size W0 W0)) :
    Calls Tryd.prog 3 #[.int .u8 (n : Int), .int .u8 (m : Int), .bool true, .int .u64 (a : Int), .int .u64 (b : Int)] W0 fun e W' => e = .returned (.bool true) ∧ Below W0.heap.size W0 W' := by
  go_enter Tryd.func3, Tryd.ntmps3
  go_wp2_with (first | ((with_reducible refine (A1.out _).mono ?_); rintro e w1 ⟨rfl, rfl⟩) | ((with_reducible refine (A2.out _).mono ?_); rintro e w1 ⟨rfl, rfl⟩) | ((with_reducible refine (O1.out _).mono ?_); rintro e w1 ⟨rfl, rfl⟩) | ((with_reducible refine (O2.out _).mono ?_); rintro e w1 ⟨rfl, rfl⟩) | ((with_reducible refine (L1.out _ HB.out).mono ?_); rintro e w1 ⟨rfl, hb⟩; have HB := hide hb; clear hb) | ((with_reducible refine (F1.out _ HB.out).mono ?_); rintro e w1 ⟨rfl, hb⟩; have HB := hide hb; clear hb) | ((with_reducible refine (F2.out _ HB.out).mono ?_); rintro e w1 ⟨rfl, hb⟩; have HB := hide hb; clear hb) | ((with_reducible refine (T1.out _ HB.out).mono ?_); rintro e w1 ⟨rfl, hb⟩; have HB := hide hb; clear hb) | ((with_reducible refine (T2.out _ HB.out).mono ?_); rintro e w1 ⟨rfl, hb⟩; have HB := hide hb; clear hb) | ((with_reducible refine (C1.out _ HB.out).mono ?_); rintro e w1 ⟨rfl, hb⟩; have HB := hide hb; clear hb) | ((with_reducible refine (C2.out _ HB.out).mono ?_); rintro e w1 ⟨rfl, hb⟩; have HB := hide hb; clear hb) | ((with_reducible refine (L2.out _ HB.out).mono ?_); rintro e w1 ⟨rfl, hb⟩; have HB := hide hb; clear hb) | ((with_reducible refine (K.out _ HB.out).mono ?_); rintro e w1 ⟨rfl, hb⟩; have HB := hide hb; clear hb))
  go_ret
  exact ⟨rfl, HB.out⟩

theorem ConvsRises_calls (n m : Int) (sg : Bool) (a b : Int) (w0 : (Lit.int .u8 n).wf = true) (w1 : (Lit.int .u8 m).wf = true) (w3 : (Lit.int .u64 a).wf = true) (w4 : (Lit.int .u64 b).wf = true) (W : World) (hT : WTabs W) :
    Calls Tryd.prog 3 #[.int .u8 n, .int .u8 m, .bool sg, .int .u64 a, .int .u64 b] W fun e W' => e = .returned (.bool true) ∧ Below W.heap.size W W' := by
  obtain ⟨n, rfl⟩ := wf8' w0
  obtain ⟨m, rfl⟩ := wf8' w1
  obtain ⟨a, rfl, ha⟩ := wf64' w3
  obtain ⟨b, rfl, hb⟩ := wf64' w4
  have hf := wd_isW n
  have ht := wd_isW m
  have ha1 := cut_lt (wd n) a
  have hb1 := cut_lt (wd n) b
  have ha64 : a % 2 ^ wd n < 2 ^ 64 := Nat.lt_of_le_of_lt (Nat.mod_le _ _) ha
  have hb64 : b % 2 ^ wd n < 2 ^ 64 := Nat.lt_of_le_of_lt (Nat.mod_le _ _) hb
  have A1 := hide (lwidth_calls n)
  have A2 := hide (lwidth_calls m)
  have O1 := hide (lof_calls hf a ha)
  have O2 := hide (lof_calls hf b hb)
  have K := hide (@works_calls W)
  have HB := hide (Below.refl W.heap.size W)
  generalize a % 2 ^ wd n = a1 at *
  generalize b % 2 ^ wd n = b1 at *
  generalize wd n = f at *
  generalize wd m = t at *
  have F1 := hide (@float_from W f t sg a1 ha64 _ _ (fltF_of hf ht ha1))
  have F2 := hide (@float_from W f t sg b1 hb64 _ _ (fltF_of hf ht hb1))
  have C1 := hide (@held_from W f t sg a1 ha64 _ _ (heldF_of hf ht ha1))
  have C2 := hide (@held_from W f t sg b1 hb64 _ _ (heldF_of hf ht hb1))
  have T1 := hide (@fthan_from W t _ _ ht (flt_lt ht f sg a1) (flt_lt ht f sg b1) _ rfl)
  have T2 := hide (@fthan_from W f _ _ hf ha1 hb1 _ rfl)
  have hup : valI f sg a1 ≤ valI f sg b1 → leF t (fltN f t sg a1) (fltN f t sg b1) = true := fun h => by
    rw [leF_is, (flt_num (fr := f) (to := t) (sg := sg) (a := a1)).1, (flt_num (fr := f) (to := t) (sg := sg) (a := b1)).1, decide_eq_true (flt_rises h)]
    rfl
  have hri : leF f a1 b1 = true → decide (valI t sg (cutN f t sg a1).1 ≤ valI t sg (cutN f t sg b1).1) = true := fun h => by
    rw [leF_is, Bool.and_eq_true, Bool.and_eq_true] at h
    exact decide_eq_true (cut_rises hf ht (by simpa using h.1.1) (by simpa using h.1.2) (of_decide_eq_true h.2))
  cases sg
  · have L1 := hide (@ithan_from W hT f _ _ hf false ha1 hb1 _ rfl)
    have L2 := hide (@ithan_from W hT t _ _ ht false (cut_lt2 (fr := f) (a := a1) (sg := false) ht) (cut_lt2 (fr := f) (a := b1) (sg := false) ht) _ rfl)
    cases hle : decide (valI f false a1 ≤ valI f false b1) with
    | false =>
      rw [hle] at L1
      cases hbl : leF f a1 b1 with
      | false =>
        rw [hbl] at T2
        exact rises_false_false_false A1 A2 O1 O2 L1 F1 F2 T1 T2 C1 C2 L2 K HB
      | true =>
        rw [hbl] at T2
        rw [hri hbl] at L2
        exact rises_false_false_true (ri := true) A1 A2 O1 O2 L1 F1 F2 T1 T2 C1 C2 L2 K HB
    | true =>
      rw [hle] at L1
      rw [hup (of_decide_eq_true hle)] at T1
      cases hbl : leF f a1 b1 with
      | false =>
        rw [hbl] at T2
        exact rises_false_true_false (up := true) A1 A2 O1 O2 L1 F1 F2 T1 T2 C1 C2 L2 K HB
      | true =>
        rw [hbl] at T2
        rw [hri hbl] at L2
        exact rises_false_true_true (up := true) (ri := true) A1 A2 O1 O2 L1 F1 F2 T1 T2 C1 C2 L2 K HB
  · have L1 := hide (@ithan_from W hT f _ _ hf true ha1 hb1 _ rfl)
    have L2 := hide (@ithan_from W hT t _ _ ht true (cut_lt2 (fr := f) (a := a1) (sg := true) ht) (cut_lt2 (fr := f) (a := b1) (sg := true) ht) _ rfl)
    cases hle : decide (valI f true a1 ≤ valI f true b1) with
    | false =>
      rw [hle] at L1
      cases hbl : leF f a1 b1 with
      | false =>
        rw [hbl] at T2
        exact rises_true_false_false A1 A2 O1 O2 L1 F1 F2 T1 T2 C1 C2 L2 K HB
      | true =>
        rw [hbl] at T2
        rw [hri hbl] at L2
        exact rises_true_false_true (ri := true) A1 A2 O1 O2 L1 F1 F2 T1 T2 C1 C2 L2 K HB
    | true =>
      rw [hle] at L1
      rw [hup (of_decide_eq_true hle)] at T1
      cases hbl : leF f a1 b1 with
      | false =>
        rw [hbl] at T2
        exact rises_true_true_false (up := true) A1 A2 O1 O2 L1 F1 F2 T1 T2 C1 C2 L2 K HB
      | true =>
        rw [hbl] at T2
        rw [hri hbl] at L2
        exact rises_true_true_true (up := true) (ri := true) A1 A2 O1 O2 L1 F1 F2 T1 T2 C1 C2 L2 K HB

set_option maxRecDepth 100000 in
set_option maxHeartbeats 2000000 in
theorem signs_32_32_n {W0 : World} {n m a a1 g x y : Nat} (D : (a1 : Int) / 2147483648 = 1) (Z : bits .or .u64 (y : Int) 2147483648 = (x : Int))
    (A1 : Hide (∀ W, Calls Tryd.prog 5 #[.int .u8 (n : Int)] W fun e W' => e = .returned (.int .i64 32) ∧ W' = W)) (A2 : Hide (∀ W, Calls Tryd.prog 5 #[.int .u8 (m : Int)] W fun e W' => e = .returned (.int .i64 32) ∧ W' = W))
    (O1 : Hide (∀ W, Calls Tryd.prog 6 #[.int .i64 32, .int .u64 (a : Int)] W fun e W' => e = .returned (.int .u64 (a1 : Int)) ∧ W' = W))
    (F1 : Hide (∀ W, Below W0.heap.size W0 W → Calls Tryd.prog 8 #[.int .i64 32, .int .i64 32, .bool true, .int .u64 (a1 : Int)] W fun e W' => e = .returned (.tuple #[.int .u64 (x : Int), .int .i64 0]) ∧ Below W0.heap.size W0 W'))
    (B1 : Hide (∀ W, Below W0.heap.size W0 W → Calls Tryd.prog 12 #[.int .u8 29, .int .i64 32, .int .u64 (a1 : Int)] W fun e W' => e = .returned (.tuple #[.int .u64 (g : Int), .int .i64 0]) ∧ Below W0.heap.size W0 W'))
    (F2 : Hide (∀ W, Below W0.heap.size W0 W → Calls Tryd.prog 8 #[.int .i64 32, .int .i64 32, .bool false, .int .u64 (g : Int)] W fun e W' => e = .returned (.tuple #[.int .u64 (y : Int), .int .i64 0]) ∧ Below W0.heap.size W0 W'))
    (K : Hide (∀ W, Below W0.heap.size W0 W → Calls Tryd.prog 11 #[] W fun e W' => e = .returned (.bool true) ∧ Below W0.heap.size W0 W')) (HB : Hide (Below W0.heap.size W0 W0)) :
    Calls Tryd.prog 4 #[.int .u8 (n : Int), .int .u8 (m : Int), .int .u64 (a : Int)] W0 fun e W' => e = .returned (.bool true) ∧ Below W0.heap.size W0 W' := by
  go_enter Tryd.func4, Tryd.ntmps4
  go_wp2_with (first | ((with_reducible refine (A1.out _).mono ?_); rintro e w1 ⟨rfl, rfl⟩) | ((with_reducible refine (A2.out _).mono ?_); rintro e w1 ⟨rfl, rfl⟩) | ((with_reducible refine (O1.out _).mono ?_); rintro e w1 ⟨rfl, rfl⟩) | ((with_reducible refine (F1.out _ HB.out).mono ?_); rintro e w1 ⟨rfl, hb⟩; have HB := hide hb; clear hb) | ((with_reducible refine (B1.out _ HB.out).mono ?_); rintro e w1 ⟨rfl, hb⟩; have HB := hide hb; clear hb) | ((with_reducible refine (F2.out _ HB.out).mono ?_); rintro e w1 ⟨rfl, hb⟩; have HB := hide hb; clear hb) | ((with_reducible refine (K.out _ HB.out).mono ?_); rintro e w1 ⟨rfl, hb⟩; have HB := hide hb; clear hb))
  go_ret
  exact ⟨rfl, HB.out⟩

set_option maxRecDepth 100000 in
set_option maxHeartbeats 2000000 in
theorem signs_32_32_p {W0 : World} {n m a a1 g x y : Nat} (D : ((a1 : Int) / 2147483648 == 1) = false) (Z : y = x)
    (A1 : Hide (∀ W, Calls Tryd.prog 5 #[.int .u8 (n : Int)] W fun e W' => e = .returned (.int .i64 32) ∧ W' = W)) (A2 : Hide (∀ W, Calls Tryd.prog 5 #[.int .u8 (m : Int)] W fun e W' => e = .returned (.int .i64 32) ∧ W' = W))
    (O1 : Hide (∀ W, Calls Tryd.prog 6 #[.int .i64 32, .int .u64 (a : Int)] W fun e W' => e = .returned (.int .u64 (a1 : Int)) ∧ W' = W))
    (F1 : Hide (∀ W, Below W0.heap.size W0 W → Calls Tryd.prog 8 #[.int .i64 32, .int .i64 32, .bool true, .int .u64 (a1 : Int)] W fun e W' => e = .returned (.tuple #[.int .u64 (x : Int), .int .i64 0]) ∧ Below W0.heap.size W0 W'))
    (B1 : Hide (∀ W, Below W0.heap.size W0 W → Calls Tryd.prog 12 #[.int .u8 29, .int .i64 32, .int .u64 (a1 : Int)] W fun e W' => e = .returned (.tuple #[.int .u64 (g : Int), .int .i64 0]) ∧ Below W0.heap.size W0 W'))
    (F2 : Hide (∀ W, Below W0.heap.size W0 W → Calls Tryd.prog 8 #[.int .i64 32, .int .i64 32, .bool false, .int .u64 (g : Int)] W fun e W' => e = .returned (.tuple #[.int .u64 (y : Int), .int .i64 0]) ∧ Below W0.heap.size W0 W'))
    (K : Hide (∀ W, Below W0.heap.size W0 W → Calls Tryd.prog 11 #[] W fun e W' => e = .returned (.bool true) ∧ Below W0.heap.size W0 W')) (HB : Hide (Below W0.heap.size W0 W0)) :
    Calls Tryd.prog 4 #[.int .u8 (n : Int), .int .u8 (m : Int), .int .u64 (a : Int)] W0 fun e W' => e = .returned (.bool true) ∧ Below W0.heap.size W0 W' := by
  subst Z
  go_enter Tryd.func4, Tryd.ntmps4
  go_wp2_with (first | ((with_reducible refine (A1.out _).mono ?_); rintro e w1 ⟨rfl, rfl⟩) | ((with_reducible refine (A2.out _).mono ?_); rintro e w1 ⟨rfl, rfl⟩) | ((with_reducible refine (O1.out _).mono ?_); rintro e w1 ⟨rfl, rfl⟩) | ((with_reducible refine (F1.out _ HB.out).mono ?_); rintro e w1 ⟨rfl, hb⟩; have HB := hide hb; clear hb) | ((with_reducible refine (B1.out _ HB.out).mono ?_); rintro e w1 ⟨rfl, hb⟩; have HB := hide hb; clear hb) | ((with_reducible refine (F2.out _ HB.out).mono ?_); rintro e w1 ⟨rfl, hb⟩; have HB := hide hb; clear hb) | ((with_reducible refine (K.out _ HB.out).mono ?_); rintro e w1 ⟨rfl, hb⟩; have HB := hide hb; clear hb))
  go_ret
  exact ⟨rfl, HB.out⟩

set_option maxRecDepth 100000 in
set_option maxHeartbeats 2000000 in
theorem signs_32_64_n {W0 : World} {n m a a1 g x y : Nat} (D : (a1 : Int) / 2147483648 = 1) (Z : bits .or .u64 (y : Int) 9223372036854775808 = (x : Int))
    (A1 : Hide (∀ W, Calls Tryd.prog 5 #[.int .u8 (n : Int)] W fun e W' => e = .returned (.int .i64 32) ∧ W' = W)) (A2 : Hide (∀ W, Calls Tryd.prog 5 #[.int .u8 (m : Int)] W fun e W' => e = .returned (.int .i64 64) ∧ W' = W))
    (O1 : Hide (∀ W, Calls Tryd.prog 6 #[.int .i64 32, .int .u64 (a : Int)] W fun e W' => e = .returned (.int .u64 (a1 : Int)) ∧ W' = W))
    (F1 : Hide (∀ W, Below W0.heap.size W0 W → Calls Tryd.prog 8 #[.int .i64 32, .int .i64 64, .bool true, .int .u64 (a1 : Int)] W fun e W' => e = .returned (.tuple #[.int .u64 (x : Int), .int .i64 0]) ∧ Below W0.heap.size W0 W'))
    (B1 : Hide (∀ W, Below W0.heap.size W0 W → Calls Tryd.prog 12 #[.int .u8 29, .int .i64 32, .int .u64 (a1 : Int)] W fun e W' => e = .returned (.tuple #[.int .u64 (g : Int), .int .i64 0]) ∧ Below W0.heap.size W0 W'))
    (F2 : Hide (∀ W, Below W0.heap.size W0 W → Calls Tryd.prog 8 #[.int .i64 32, .int .i64 64, .bool false, .int .u64 (g : Int)] W fun e W' => e = .returned (.tuple #[.int .u64 (y : Int), .int .i64 0]) ∧ Below W0.heap.size W0 W'))
    (K : Hide (∀ W, Below W0.heap.size W0 W → Calls Tryd.prog 11 #[] W fun e W' => e = .returned (.bool true) ∧ Below W0.heap.size W0 W')) (HB : Hide (Below W0.heap.size W0 W0)) :
    Calls Tryd.prog 4 #[.int .u8 (n : Int), .int .u8 (m : Int), .int .u64 (a : Int)] W0 fun e W' => e = .returned (.bool true) ∧ Below W0.heap.size W0 W' := by
  go_enter Tryd.func4, Tryd.ntmps4
  go_wp2_with (first | ((with_reducible refine (A1.out _).mono ?_); rintro e w1 ⟨rfl, rfl⟩) | ((with_reducible refine (A2.out _).mono ?_); rintro e w1 ⟨rfl, rfl⟩) | ((with_reducible refine (O1.out _).mono ?_); rintro e w1 ⟨rfl, rfl⟩) | ((with_reducible refine (F1.out _ HB.out).mono ?_); rintro e w1 ⟨rfl, hb⟩; have HB := hide hb; clear hb) | ((with_reducible refine (B1.out _ HB.out).mono ?_); rintro e w1 ⟨rfl, hb⟩; have HB := hide hb; clear hb) | ((with_reducible refine (F2.out _ HB.out).mono ?_); rintro e w1 ⟨rfl, hb⟩; have HB := hide hb; clear hb) | ((with_reducible refine (K.out _ HB.out).mono ?_); rintro e w1 ⟨rfl, hb⟩; have HB := hide hb; clear hb))
  go_ret
  exact ⟨rfl, HB.out⟩

set_option maxRecDepth 100000 in
set_option maxHeartbeats 2000000 in
theorem signs_32_64_p {W0 : World} {n m a a1 g x y : Nat} (D : ((a1 : Int) / 2147483648 == 1) = false) (Z : y = x)
    (A1 : Hide (∀ W, Calls Tryd.prog 5 #[.int .u8 (n : Int)] W fun e W' => e = .returned (.int .i64 32) ∧ W' = W)) (A2 : Hide (∀ W, Calls Tryd.prog 5 #[.int .u8 (m : Int)] W fun e W' => e = .returned (.int .i64 64) ∧ W' = W))
    (O1 : Hide (∀ W, Calls Tryd.prog 6 #[.int .i64 32, .int .u64 (a : Int)] W fun e W' => e = .returned (.int .u64 (a1 : Int)) ∧ W' = W))
    (F1 : Hide (∀ W, Below W0.heap.size W0 W → Calls Tryd.prog 8 #[.int .i64 32, .int .i64 64, .bool true, .int .u64 (a1 : Int)] W fun e W' => e = .returned (.tuple #[.int .u64 (x : Int), .int .i64 0]) ∧ Below W0.heap.size W0 W'))
    (B1 : Hide (∀ W, Below W0.heap.size W0 W → Calls Tryd.prog 12 #[.int .u8 29, .int .i64 32, .int .u64 (a1 : Int)] W fun e W' => e = .returned (.tuple #[.int .u64 (g : Int), .int .i64 0]) ∧ Below W0.heap.size W0 W'))
    (F2 : Hide (∀ W, Below W0.heap.size W0 W → Calls Tryd.prog 8 #[.int .i64 32, .int .i64 64, .bool false, .int .u64 (g : Int)] W fun e W' => e = .returned (.tuple #[.int .u64 (y : Int), .int .i64 0]) ∧ Below W0.heap.size W0 W'))
    (K : Hide (∀ W, Below W0.heap.size W0 W → Calls Tryd.prog 11 #[] W fun e W' => e = .returned (.bool true) ∧ Below W0.heap.size W0 W')) (HB : Hide (Below W0.heap.size W0 W0)) :
    Calls Tryd.prog 4 #[.int .u8 (n : Int), .int .u8 (m : Int), .int .u64 (a : Int)] W0 fun e W' => e = .returned (.bool true) ∧ Below W0.heap.size W0 W' := by
  subst Z
  go_enter Tryd.func4, Tryd.ntmps4
  go_wp2_with (first | ((with_reducible refine (A1.out _).mono ?_); rintro e w1 ⟨rfl, rfl⟩) | ((with_reducible refine (A2.out _).mono ?_); rintro e w1 ⟨rfl, rfl⟩) | ((with_reducible refine (O1.out _).mono ?_); rintro e w1 ⟨rfl, rfl⟩) | ((with_reducible refine (F1.out _ HB.out).mono ?_); rintro e w1 ⟨rfl, hb⟩; have HB := hide hb; clear hb) | ((with_reducible refine (B1.out _ HB.out).mono ?_); rintro e w1 ⟨rfl, hb⟩; have HB := hide hb; clear hb) | ((with_reducible refine (F2.out _ HB.out).mono ?_); rintro e w1 ⟨rfl, hb⟩; have HB := hide hb; clear hb) | ((with_reducible refine (K.out _ HB.out).mono ?_); rintro e w1 ⟨rfl, hb⟩; have HB := hide hb; clear hb))
  go_ret
  exact ⟨rfl, HB.out⟩

set_option maxRecDepth 100000 in
set_option maxHeartbeats 2000000 in
theorem signs_64_32_n {W0 : World} {n m a a1 g x y : Nat} (D : (a1 : Int) / 9223372036854775808 = 1) (Z : bits .or .u64 (y : Int) 2147483648 = (x : Int))
    (A1 : Hide (∀ W, Calls Tryd.prog 5 #[.int .u8 (n : Int)] W fun e W' => e = .returned (.int .i64 64) ∧ W' = W)) (A2 : Hide (∀ W, Calls Tryd.prog 5 #[.int .u8 (m : Int)] W fun e W' => e = .returned (.int .i64 32) ∧ W' = W))
    (O1 : Hide (∀ W, Calls Tryd.prog 6 #[.int .i64 64, .int .u64 (a : Int)] W fun e W' => e = .returned (.int .u64 (a1 : Int)) ∧ W' = W))
    (F1 : Hide (∀ W, Below W0.heap.size W0 W → Calls Tryd.prog 8 #[.int .i64 64, .int .i64 32, .bool true, .int .u64 (a1 : Int)] W fun e W' => e = .returned (.tuple #[.int .u64 (x : Int), .int .i64 0]) ∧ Below W0.heap.size W0 W'))
    (B1 : Hide (∀ W, Below W0.heap.size W0 W → Calls Tryd.prog 12 #[.int .u8 29, .int .i64 64, .int .u64 (a1 : Int)] W fun e W' => e = .returned (.tuple #[.int .u64 (g : Int), .int .i64 0]) ∧ Below W0.heap.size W0 W'))
    (F2 : Hide (∀ W, Below W0.heap.size W0 W → Calls Tryd.prog 8 #[.int .i64 64, .int .i64 32, .bool false, .int .u64 (g : Int)] W fun e W' => e = .returned (.tuple #[.int .u64 (y : Int), .int .i64 0]) ∧ Below W0.heap.size W0 W'))
    (K : Hide (∀ W, Below W0.heap.size W0 W → Calls Tryd.prog 11 #[] W fun e W' => e = .returned (.bool true) ∧ Below W0.heap.size W0 W')) (HB : Hide (Below W0.heap.size W0 W0)) :
    Calls Tryd.prog 4 #[.int .u8 (n : Int), .int .u8 (m : Int), .int .u64 (a : Int)] W0 fun e W' => e = .returned (.bool true) ∧ Below W0.heap.size W0 W' := by
  go_enter Tryd.func4, Tryd.ntmps4
  go_wp2_with (first | ((with_reducible refine (A1.out _).mono ?_); rintro e w1 ⟨rfl, rfl⟩) | ((with_reducible refine (A2.out _).mono ?_); rintro e w1 ⟨rfl, rfl⟩) | ((with_reducible refine (O1.out _).mono ?_); rintro e w1 ⟨rfl, rfl⟩) | ((with_reducible refine (F1.out _ HB.out).mono ?_); rintro e w1 ⟨rfl, hb⟩; have HB := hide hb; clear hb) | ((with_reducible refine (B1.out _ HB.out).mono ?_); rintro e w1 ⟨rfl, hb⟩; have HB := hide hb; clear hb) | ((with_reducible refine (F2.out _ HB.out).mono ?_); rintro e w1 ⟨rfl, hb⟩; have HB := hide hb; clear hb) | ((with_reducible refine (K.out _ HB.out).mono ?_); rintro e w1 ⟨rfl, hb⟩; have HB := hide hb; clear hb))
  go_ret
  exact ⟨rfl, HB.out⟩

set_option maxRecDepth 100000 in
set_option maxHeartbeats 2000000 in
theorem signs_64_32_p {W0 : World} {n m a a1 g x y : Nat} (D : ((a1 : Int) / 9223372036854775808 == 1) = false) (Z : y = x)
    (A1 : Hide (∀ W, Calls Tryd.prog 5 #[.int .u8 (n : Int)] W fun e W' => e = .returned (.int .i64 64) ∧ W' = W)) (A2 : Hide (∀ W, Calls Tryd.prog 5 #[.int .u8 (m : Int)] W fun e W' => e = .returned (.int .i64 32) ∧ W' = W))
    (O1 : Hide (∀ W, Calls Tryd.prog 6 #[.int .i64 64, .int .u64 (a : Int)] W fun e W' => e = .returned (.int .u64 (a1 : Int)) ∧ W' = W))
    (F1 : Hide (∀ W, Below W0.heap.size W0 W → Calls Tryd.prog 8 #[.int .i64 64, .int .i64 32, .bool true, .int .u64 (a1 : Int)] W fun e W' => e = .returned (.tuple #[.int .u64 (x : Int), .int .i64 0]) ∧ Below W0.heap.size W0 W'))
    (B1 : Hide (∀ W, Below W0.heap.size W0 W → Calls Tryd.prog 12 #[.int .u8 29, .int .i64 64, .int .u64 (a1 : Int)] W fun e W' => e = .returned (.tuple #[.int .u64 (g : Int), .int .i64 0]) ∧ Below W0.heap.size W0 W'))
    (F2 : Hide (∀ W, Below W0.heap.size W0 W → Calls Tryd.prog 8 #[.int .i64 64, .int .i64 32, .bool false, .int .u64 (g : Int)] W fun e W' => e = .returned (.tuple #[.int .u64 (y : Int), .int .i64 0]) ∧ Below W0.heap.size W0 W'))
    (K : Hide (∀ W, Below W0.heap.size W0 W → Calls Tryd.prog 11 #[] W fun e W' => e = .returned (.bool true) ∧ Below W0.heap.size W0 W')) (HB : Hide (Below W0.heap.size W0 W0)) :
    Calls Tryd.prog 4 #[.int .u8 (n : Int), .int .u8 (m : Int), .int .u64 (a : Int)] W0 fun e W' => e = .returned (.bool true) ∧ Below W0.heap.size W0 W' := by
  subst Z
  go_enter Tryd.func4, Tryd.ntmps4
  go_wp2_with (first | ((with_reducible refine (A1.out _).mono ?_); rintro e w1 ⟨rfl, rfl⟩) | ((with_reducible refine (A2.out _).mono ?_); rintro e w1 ⟨rfl, rfl⟩) | ((with_reducible refine (O1.out _).mono ?_); rintro e w1 ⟨rfl, rfl⟩) | ((with_reducible refine (F1.out _ HB.out).mono ?_); rintro e w1 ⟨rfl, hb⟩; have HB := hide hb; clear hb) | ((with_reducible refine (B1.out _ HB.out).mono ?_); rintro e w1 ⟨rfl, hb⟩; have HB := hide hb; clear hb) | ((with_reducible refine (F2.out _ HB.out).mono ?_); rintro e w1 ⟨rfl, hb⟩; have HB := hide hb; clear hb) | ((with_reducible refine (K.out _ HB.out).mono ?_); rintro e w1 ⟨rfl, hb⟩; have HB := hide hb; clear hb))
  go_ret
  exact ⟨rfl, HB.out⟩

set_option maxRecDepth 100000 in
set_option maxHeartbeats 2000000 in
theorem signs_64_64_n {W0 : World} {n m a a1 g x y : Nat} (D : (a1 : Int) / 9223372036854775808 = 1) (Z : bits .or .u64 (y : Int) 9223372036854775808 = (x : Int))
    (A1 : Hide (∀ W, Calls Tryd.prog 5 #[.int .u8 (n : Int)] W fun e W' => e = .returned (.int .i64 64) ∧ W' = W)) (A2 : Hide (∀ W, Calls Tryd.prog 5 #[.int .u8 (m : Int)] W fun e W' => e = .returned (.int .i64 64) ∧ W' = W))
    (O1 : Hide (∀ W, Calls Tryd.prog 6 #[.int .i64 64, .int .u64 (a : Int)] W fun e W' => e = .returned (.int .u64 (a1 : Int)) ∧ W' = W))
    (F1 : Hide (∀ W, Below W0.heap.size W0 W → Calls Tryd.prog 8 #[.int .i64 64, .int .i64 64, .bool true, .int .u64 (a1 : Int)] W fun e W' => e = .returned (.tuple #[.int .u64 (x : Int), .int .i64 0]) ∧ Below W0.heap.size W0 W'))
    (B1 : Hide (∀ W, Below W0.heap.size W0 W → Calls Tryd.prog 12 #[.int .u8 29, .int .i64 64, .int .u64 (a1 : Int)] W fun e W' => e = .returned (.tuple #[.int .u64 (g : Int), .int .i64 0]) ∧ Below W0.heap.size W0 W'))
    (F2 : Hide (∀ W, Below W0.heap.size W0 W → Calls Tryd.prog 8 #[.int .i64 64, .int .i64 64, .bool false, .int .u64 (g : Int)] W fun e W' => e = .returned (.tuple #[.int .u64 (y : Int), .int .i64 0]) ∧ Below W0.heap.size W0 W'))
    (K : Hide (∀ W, Below W0.heap.size W0 W → Calls Tryd.prog 11 #[] W fun e W' => e = .returned (.bool true) ∧ Below W0.heap.size W0 W')) (HB : Hide (Below W0.heap.size W0 W0)) :
    Calls Tryd.prog 4 #[.int .u8 (n : Int), .int .u8 (m : Int), .int .u64 (a : Int)] W0 fun e W' => e = .returned (.bool true) ∧ Below W0.heap.size W0 W' := by
  go_enter Tryd.func4, Tryd.ntmps4
  go_wp2_with (first | ((with_reducible refine (A1.out _).mono ?_); rintro e w1 ⟨rfl, rfl⟩) | ((with_reducible refine (A2.out _).mono ?_); rintro e w1 ⟨rfl, rfl⟩) | ((with_reducible refine (O1.out _).mono ?_); rintro e w1 ⟨rfl, rfl⟩) | ((with_reducible refine (F1.out _ HB.out).mono ?_); rintro e w1 ⟨rfl, hb⟩; have HB := hide hb; clear hb) | ((with_reducible refine (B1.out _ HB.out).mono ?_); rintro e w1 ⟨rfl, hb⟩; have HB := hide hb; clear hb) | ((with_reducible refine (F2.out _ HB.out).mono ?_); rintro e w1 ⟨rfl, hb⟩; have HB := hide hb; clear hb) | ((with_reducible refine (K.out _ HB.out).mono ?_); rintro e w1 ⟨rfl, hb⟩; have HB := hide hb; clear hb))
  go_ret
  exact ⟨rfl, HB.out⟩

set_option maxRecDepth 100000 in
set_option maxHeartbeats 2000000 in
theorem signs_64_64_p {W0 : World} {n m a a1 g x y : Nat} (D : ((a1 : Int) / 9223372036854775808 == 1) = false) (Z : y = x)
    (A1 : Hide (∀ W, Calls Tryd.prog 5 #[.int .u8 (n : Int)] W fun e W' => e = .returned (.int .i64 64) ∧ W' = W)) (A2 : Hide (∀ W, Calls Tryd.prog 5 #[.int .u8 (m : Int)] W fun e W' => e = .returned (.int .i64 64) ∧ W' = W))
    (O1 : Hide (∀ W, Calls Tryd.prog 6 #[.int .i64 64, .int .u64 (a : Int)] W fun e W' => e = .returned (.int .u64 (a1 : Int)) ∧ W' = W))
    (F1 : Hide (∀ W, Below W0.heap.size W0 W → Calls Tryd.prog 8 #[.int .i64 64, .int .i64 64, .bool true, .int .u64 (a1 : Int)] W fun e W' => e = .returned (.tuple #[.int .u64 (x : Int), .int .i64 0]) ∧ Below W0.heap.size W0 W'))
    (B1 : Hide (∀ W, Below W0.heap.size W0 W → Calls Tryd.prog 12 #[.int .u8 29, .int .i64 64, .int .u64 (a1 : Int)] W fun e W' => e = .returned (.tuple #[.int .u64 (g : Int), .int .i64 0]) ∧ Below W0.heap.size W0 W'))
    (F2 : Hide (∀ W, Below W0.heap.size W0 W → Calls Tryd.prog 8 #[.int .i64 64, .int .i64 64, .bool false, .int .u64 (g : Int)] W fun e W' => e = .returned (.tuple #[.int .u64 (y : Int), .int .i64 0]) ∧ Below W0.heap.size W0 W'))
    (K : Hide (∀ W, Below W0.heap.size W0 W → Calls Tryd.prog 11 #[] W fun e W' => e = .returned (.bool true) ∧ Below W0.heap.size W0 W')) (HB : Hide (Below W0.heap.size W0 W0)) :
    Calls Tryd.prog 4 #[.int .u8 (n : Int), .int .u8 (m : Int), .int .u64 (a : Int)] W0 fun e W' => e = .returned (.bool true) ∧ Below W0.heap.size W0 W' := by
  subst Z
  go_enter Tryd.func4, Tryd.ntmps4
  go_wp2_with (first | ((with_reducible refine (A1.out _).mono ?_); rintro e w1 ⟨rfl, rfl⟩) | ((with_reducible refine (A2.out _).mono ?_); rintro e w1 ⟨rfl, rfl⟩) | ((with_reducible refine (O1.out _).mono ?_); rintro e w1 ⟨rfl, rfl⟩) | ((with_reducible refine (F1.out _ HB.out).mono ?_); rintro e w1 ⟨rfl, hb⟩; have HB := hide hb; clear hb) | ((with_reducible refine (B1.out _ HB.out).mono ?_); rintro e w1 ⟨rfl, hb⟩; have HB := hide hb; clear hb) | ((with_reducible refine (F2.out _ HB.out).mono ?_); rintro e w1 ⟨rfl, hb⟩; have HB := hide hb; clear hb) | ((with_reducible refine (K.out _ HB.out).mono ?_); rintro e w1 ⟨rfl, hb⟩; have HB := hide hb; clear hb))
  go_ret
  exact ⟨rfl, HB.out⟩

theorem iabs_from {W0 : World} (hT : Tabs W0) {w a : Nat} (hw : IsW w) (ha : a < 2 ^ w) {g : Nat} (hx : magOf w true a = g) (W : World) (hB : Below W0.heap.size W0 W) :
    Calls Tryd.prog 12 #[.int .u8 29, .int .i64 (w : Int), .int .u64 (a : Int)] W fun r W' => r = .returned (.tuple #[.int .u64 (g : Int), .int .i64 0]) ∧ Below W0.heap.size W0 W' := by
  have h := Z.One_calls (zW hw) 29 (a : Int) (by decide) (zOf ha) W (hT.later hB)
  have e : Z.one (29 : Int).toNat w (a : Int) = ((g : Int), 0) := by
    rw [← hx]
    show (Z.absI w (a : Int), (0 : Int)) = _
    congr 1
    unfold Z.absI Z.hi magOf
    rcases hw with rfl | rfl
    · by_cases c : 2147483648 ≤ a
      · rw [if_neg (by show ¬ (a : Int) ≤ 2147483647; omega)]; simp [c]; omega
      · rw [if_pos (by show (a : Int) ≤ 2147483647; omega)]; simp [c]
    · by_cases c : 9223372036854775808 ≤ a
      · rw [if_neg (by show ¬ (a : Int) ≤ 9223372036854775807; omega)]; simp [c]; omega
      · rw [if_pos (by show (a : Int) ≤ 9223372036854775807; omega)]; simp [c]
  rw [e] at h
  exact h.mono fun e W' ⟨he, hk⟩ => ⟨he, below_two hB hk⟩

theorem mag_lt {w a : Nat} (ha : a < 2 ^ w) (h1 : 1 ≤ w) : magOf w true a < 2 ^ w := by
  have hp := Nat.two_pow_pos (w - 1)
  unfold magOf
  split
  · rename_i h
    simp only [Bool.true_and, decide_eq_true_eq] at h
    omega
  · exact ha
theorem flt_signs {fr to a : Nat} (ht : IsW to) : bits .or .u64 (fltN fr to false (magOf fr true a) : Int) (signN to : Int) = ((Ieee.Format.word (fm to) true (rungOf (fm to) (magOf fr true a) 0) : Nat) : Int) ∧ fltN fr to false (magOf fr true a) = (fm to).word false (rungOf (fm to) (magOf fr true a) 0) := by
  have e : fltN fr to false (magOf fr true a) = (fm to).word false (rungOf (fm to) (magOf fr true a) 0) := rfl
  have hr := rung_le_inf (fm to) (magOf fr true a) 0
  have hs := inf_lt_sw (fm to)
  refine ⟨?_, e⟩
  rw [e]
  exact bits_or_parts (w := to) (s := signN to) (r := rungOf (fm to) (magOf fr true a) 0) ht (.inr rfl) (by unfold signN; omega)

theorem ConvsSigns_calls (n m a : Int) (w0 : (Lit.int .u8 n).wf = true) (w1 : (Lit.int .u8 m).wf = true) (w2 : (Lit.int .u64 a).wf = true) (W : World) (hT : Tabs W) :
    Calls Tryd.prog 4 #[.int .u8 n, .int .u8 m, .int .u64 a] W fun e W' => e = .returned (.bool true) ∧ Below W.heap.size W W' := by
  obtain ⟨n, rfl⟩ := wf8' w0
  obtain ⟨m, rfl⟩ := wf8' w1
  obtain ⟨a, rfl, ha⟩ := wf64' w2
  have hf := wd_isW n
  have ht := wd_isW m
  have ha1 := cut_lt (wd n) a
  have ha64 : a % 2 ^ wd n < 2 ^ 64 := Nat.lt_of_le_of_lt (Nat.mod_le _ _) ha
  have A1 := hide (lwidth_calls n)
  have A2 := hide (lwidth_calls m)
  have O1 := hide (lof_calls hf a ha)
  have K := hide (@works_calls W)
  have HB := hide (Below.refl W.heap.size W)
  generalize a % 2 ^ wd n = a1 at *
  generalize wd n = f at *
  generalize wd m = t at *
  have hg : magOf f true a1 < 2 ^ f := mag_lt ha1 (by rcases hf with rfl | rfl <;> decide)
  have F1 := hide (@float_from W f t true a1 ha64 _ _ (fltF_of hf ht ha1))
  have B1 := hide (@iabs_from W hT f a1 hf ha1 _ rfl)
  have F2 := hide (@float_from W f t false _ (by have := pow_le hf; omega) _ _ (fltF_of hf ht hg))
  obtain ⟨z1, z2⟩ := flt_signs (fr := f) (a := a1) ht
  by_cases d : 2 ^ (f - 1) ≤ a1
  · have en : fltN f t true a1 = (fm t).word true (rungOf (fm t) (magOf f true a1) 0) := by
      unfold fltN negOf; rw [decide_eq_true d]; rfl
    rw [← en] at z1
    rcases hf with rfl | rfl
    · have D : (a1 : Int) / 2147483648 = 1 := by have : 2147483648 ≤ a1 := d; omega
      rcases ht with rfl | rfl
      · exact signs_32_32_n D z1 A1 A2 O1 F1 B1 F2 K HB
      · exact signs_32_64_n D z1 A1 A2 O1 F1 B1 F2 K HB
    · have D : (a1 : Int) / 9223372036854775808 = 1 := by have : 9223372036854775808 ≤ a1 := d; omega
      rcases ht with rfl | rfl
      · exact signs_64_32_n D z1 A1 A2 O1 F1 B1 F2 K HB
      · exact signs_64_64_n D z1 A1 A2 O1 F1 B1 F2 K HB
  · have en : fltN f t true a1 = (fm t).word false (rungOf (fm t) (magOf f true a1) 0) := by
      unfold fltN negOf; rw [decide_eq_false d]; rfl
    rw [← en] at z2
    rcases hf with rfl | rfl
    · have D : ((a1 : Int) / 2147483648 == 1) = false := by have : ¬ 2147483648 ≤ a1 := d; simp; omega
      rcases ht with rfl | rfl
      · exact signs_32_32_p D z2 A1 A2 O1 F1 B1 F2 K HB
      · exact signs_32_64_p D z2 A1 A2 O1 F1 B1 F2 K HB
    · have D : ((a1 : Int) / 9223372036854775808 == 1) = false := by have : ¬ 9223372036854775808 ≤ a1 := d; simp; omega
      rcases ht with rfl | rfl
      · exact signs_64_32_p D z2 A1 A2 O1 F1 B1 F2 K HB
      · exact signs_64_64_p D z2 A1 A2 O1 F1 B1 F2 K HB
end Go.Proofs.YtfahogbiekmdfabDoor
