/-
  FloatsNone, FloatsOrder, FloatsSigns (genflo.py wrote it).
-/
import Derived.Test.YtgmakjmlkepfbaaFloFacts
set_option linter.unusedVariables false
set_option linter.unusedSimpArgs false
namespace Go.Proofs.Ytgmakjmlkepfbaa
open Go.RowKit Flo

set_option maxRecDepth 100000 in
set_option maxHeartbeats 1000000 in
theorem none_twon {w A B : Nat} (n op a b : Int) (hw : IsW w) (oA : A < 2 ^ w) (oB : B < 2 ^ w) {m x : Nat} (hm : op = (m : Int)) (h1 : 1 ≤ m) (h2 : m ≤ 6) (hx : two m w A B = (x, 0)) (lx : x < 2 ^ w) (ex : na w x = false) (W : World)
    (CW : Hide (∀ W : World, Calls Try.prog 18 #[.int .u8 n] W fun e W' => e = .returned (.int .i64 (w : Int)) ∧ W' = W))
    (Oa : Hide (∀ W : World, Calls Try.prog 19 #[.int .i64 (w : Int), .int .u64 a] W fun e W' => e = .returned (.int .u64 (A : Int)) ∧ W' = W))
    (Ob : Hide (∀ W : World, Calls Try.prog 19 #[.int .i64 (w : Int), .int .u64 b] W fun e W' => e = .returned (.int .u64 (B : Int)) ∧ W' = W)) :
    Calls Try.prog 6 #[.int .u8 op, .int .u8 n, .int .u64 a, .int .u64 b] W fun e W' => e = .returned (.bool true) ∧ Below W.heap.size W W' := by
  have C := hide (@Two_from W w A B hw m (o := op) hm oA oB x 0 hx)
  have D := hide (@One_from W w A hw m (o := op) hm oA 0 2 (one_none (by omega)))
  have N := hide (@lnone_calls W w x hw lx false ex)
  simp only [show ((0 : Nat) : Int) = 0 from rfl, show ((2 : Nat) : Int) = 2 from rfl] at C D
  have T := @lnone_calls W w (nanN w) hw (nan_lt_pow hw) true (na_nan hw)
  have K := hide (@works_calls W)
  have HB := hide (Below.refl W.heap.size W)
  have n7 : (op == 7) = false := by simp; omega
  have n8 : (op == 8) = false := by simp; omega
  have n9 : (op == 9) = false := by simp; omega
  have n10 : (op == 10) = false := by simp; omega
  have n11 : (op == 11) = false := by simp; omega
  clear hm h1 h2 hx lx ex
  have T := hide T
  clear oA oB
  rcases hw with rfl | rfl
  all_goals
    simp only [show ((32 : Nat) : Int) = 32 from rfl, show ((64 : Nat) : Int) = 64 from rfl, show ((nanN 32 : Nat) : Int) = 2143289344 from rfl, show ((nanN 64 : Nat) : Int) = 9221120237041090560 from rfl] at CW Oa Ob C D T N
    go_enter Try.func6, Try.ntmps6
    go_wp2_with (first | ((with_reducible refine (CW.out _).mono ?_); rintro e w1 ⟨rfl, rfl⟩) | ((with_reducible refine (Oa.out _).mono ?_); rintro e w1 ⟨rfl, rfl⟩) | ((with_reducible refine (Ob.out _).mono ?_); rintro e w1 ⟨rfl, rfl⟩) | ((with_reducible refine (C.out _ HB.out).mono ?_); rintro e w1 ⟨rfl, hb⟩; have HB := hide hb; clear hb) | ((with_reducible refine (D.out _ HB.out).mono ?_); rintro e w1 ⟨rfl, hb⟩; have HB := hide hb; clear hb) | ((with_reducible refine (N.out _ HB.out).mono ?_); rintro e w1 ⟨rfl, hb⟩; have HB := hide hb; clear hb) | ((with_reducible refine (T.out _ HB.out).mono ?_); rintro e w1 ⟨rfl, hb⟩; have HB := hide hb; clear hb) | ((with_reducible refine (K.out _ HB.out).mono ?_); rintro e w1 ⟨rfl, hb⟩; have HB := hide hb; clear hb))
    go_ret
    exact ⟨rfl, HB.out⟩

set_option maxRecDepth 100000 in
set_option maxHeartbeats 1000000 in
theorem none_twox {w A B : Nat} (n op a b : Int) (hw : IsW w) (oA : A < 2 ^ w) (oB : B < 2 ^ w) {m x : Nat} (hm : op = (m : Int)) (h1 : 1 ≤ m) (h2 : m ≤ 6) (hx : two m w A B = (x, 0)) (ex : x = nanN w) (W : World)
    (CW : Hide (∀ W : World, Calls Try.prog 18 #[.int .u8 n] W fun e W' => e = .returned (.int .i64 (w : Int)) ∧ W' = W))
    (Oa : Hide (∀ W : World, Calls Try.prog 19 #[.int .i64 (w : Int), .int .u64 a] W fun e W' => e = .returned (.int .u64 (A : Int)) ∧ W' = W))
    (Ob : Hide (∀ W : World, Calls Try.prog 19 #[.int .i64 (w : Int), .int .u64 b] W fun e W' => e = .returned (.int .u64 (B : Int)) ∧ W' = W)) :
    Calls Try.prog 6 #[.int .u8 op, .int .u8 n, .int .u64 a, .int .u64 b] W fun e W' => e = .returned (.bool true) ∧ Below W.heap.size W W' := by
  have C := hide (@Two_from W w A B hw m (o := op) hm oA oB x 0 hx)
  have D := hide (@One_from W w A hw m (o := op) hm oA 0 2 (one_none (by omega)))
  simp only [show ((0 : Nat) : Int) = 0 from rfl, show ((2 : Nat) : Int) = 2 from rfl] at C D
  have T := @lnone_calls W w (nanN w) hw (nan_lt_pow hw) true (na_nan hw)
  have K := hide (@works_calls W)
  have HB := hide (Below.refl W.heap.size W)
  have n7 : (op == 7) = false := by simp; omega
  have n8 : (op == 8) = false := by simp; omega
  have n9 : (op == 9) = false := by simp; omega
  have n10 : (op == 10) = false := by simp; omega
  have n11 : (op == 11) = false := by simp; omega
  subst ex
  clear hm h1 h2 hx
  have T := hide T
  clear oA oB
  rcases hw with rfl | rfl
  all_goals
    simp only [show ((32 : Nat) : Int) = 32 from rfl, show ((64 : Nat) : Int) = 64 from rfl, show ((nanN 32 : Nat) : Int) = 2143289344 from rfl, show ((nanN 64 : Nat) : Int) = 9221120237041090560 from rfl] at CW Oa Ob C D T
    go_enter Try.func6, Try.ntmps6
    go_wp2_with (first | ((with_reducible refine (CW.out _).mono ?_); rintro e w1 ⟨rfl, rfl⟩) | ((with_reducible refine (Oa.out _).mono ?_); rintro e w1 ⟨rfl, rfl⟩) | ((with_reducible refine (Ob.out _).mono ?_); rintro e w1 ⟨rfl, rfl⟩) | ((with_reducible refine (C.out _ HB.out).mono ?_); rintro e w1 ⟨rfl, hb⟩; have HB := hide hb; clear hb) | ((with_reducible refine (D.out _ HB.out).mono ?_); rintro e w1 ⟨rfl, hb⟩; have HB := hide hb; clear hb) | ((with_reducible refine (T.out _ HB.out).mono ?_); rintro e w1 ⟨rfl, hb⟩; have HB := hide hb; clear hb) | ((with_reducible refine (K.out _ HB.out).mono ?_); rintro e w1 ⟨rfl, hb⟩; have HB := hide hb; clear hb))
    go_ret
    exact ⟨rfl, HB.out⟩

set_option maxRecDepth 100000 in
set_option maxHeartbeats 1000000 in
theorem none_onen {w A B : Nat} (n op a b : Int) (hw : IsW w) (oA : A < 2 ^ w) (oB : B < 2 ^ w) {m x : Nat} (hm : op = (m : Int)) (h1 : 12 ≤ m) (h2 : m ≤ 16) (hx : one m w A = (x, 0)) (lx : x < 2 ^ w) (ex : na w x = false) (W : World)
    (CW : Hide (∀ W : World, Calls Try.prog 18 #[.int .u8 n] W fun e W' => e = .returned (.int .i64 (w : Int)) ∧ W' = W))
    (Oa : Hide (∀ W : World, Calls Try.prog 19 #[.int .i64 (w : Int), .int .u64 a] W fun e W' => e = .returned (.int .u64 (A : Int)) ∧ W' = W))
    (Ob : Hide (∀ W : World, Calls Try.prog 19 #[.int .i64 (w : Int), .int .u64 b] W fun e W' => e = .returned (.int .u64 (B : Int)) ∧ W' = W)) :
    Calls Try.prog 6 #[.int .u8 op, .int .u8 n, .int .u64 a, .int .u64 b] W fun e W' => e = .returned (.bool true) ∧ Below W.heap.size W W' := by
  have C := hide (@Two_from W w A B hw m (o := op) hm oA oB 0 2 (two_none (by omega)))
  have D := hide (@One_from W w A hw m (o := op) hm oA x 0 hx)
  have N := hide (@lnone_calls W w x hw lx false ex)
  simp only [show ((0 : Nat) : Int) = 0 from rfl, show ((2 : Nat) : Int) = 2 from rfl] at C D
  have T := @lnone_calls W w (nanN w) hw (nan_lt_pow hw) true (na_nan hw)
  have K := hide (@works_calls W)
  have HB := hide (Below.refl W.heap.size W)
  have n7 : (op == 7) = false := by simp; omega
  have n8 : (op == 8) = false := by simp; omega
  have n9 : (op == 9) = false := by simp; omega
  have n10 : (op == 10) = false := by simp; omega
  have n11 : (op == 11) = false := by simp; omega
  clear hm h1 h2 hx lx ex
  have T := hide T
  clear oA oB
  rcases hw with rfl | rfl
  all_goals
    simp only [show ((32 : Nat) : Int) = 32 from rfl, show ((64 : Nat) : Int) = 64 from rfl, show ((nanN 32 : Nat) : Int) = 2143289344 from rfl, show ((nanN 64 : Nat) : Int) = 9221120237041090560 from rfl] at CW Oa Ob C D T N
    go_enter Try.func6, Try.ntmps6
    go_wp2_with (first | ((with_reducible refine (CW.out _).mono ?_); rintro e w1 ⟨rfl, rfl⟩) | ((with_reducible refine (Oa.out _).mono ?_); rintro e w1 ⟨rfl, rfl⟩) | ((with_reducible refine (Ob.out _).mono ?_); rintro e w1 ⟨rfl, rfl⟩) | ((with_reducible refine (C.out _ HB.out).mono ?_); rintro e w1 ⟨rfl, hb⟩; have HB := hide hb; clear hb) | ((with_reducible refine (D.out _ HB.out).mono ?_); rintro e w1 ⟨rfl, hb⟩; have HB := hide hb; clear hb) | ((with_reducible refine (N.out _ HB.out).mono ?_); rintro e w1 ⟨rfl, hb⟩; have HB := hide hb; clear hb) | ((with_reducible refine (T.out _ HB.out).mono ?_); rintro e w1 ⟨rfl, hb⟩; have HB := hide hb; clear hb) | ((with_reducible refine (K.out _ HB.out).mono ?_); rintro e w1 ⟨rfl, hb⟩; have HB := hide hb; clear hb))
    go_ret
    exact ⟨rfl, HB.out⟩

set_option maxRecDepth 100000 in
set_option maxHeartbeats 1000000 in
theorem none_onex {w A B : Nat} (n op a b : Int) (hw : IsW w) (oA : A < 2 ^ w) (oB : B < 2 ^ w) {m x : Nat} (hm : op = (m : Int)) (h1 : 12 ≤ m) (h2 : m ≤ 16) (hx : one m w A = (x, 0)) (ex : x = nanN w) (W : World)
    (CW : Hide (∀ W : World, Calls Try.prog 18 #[.int .u8 n] W fun e W' => e = .returned (.int .i64 (w : Int)) ∧ W' = W))
    (Oa : Hide (∀ W : World, Calls Try.prog 19 #[.int .i64 (w : Int), .int .u64 a] W fun e W' => e = .returned (.int .u64 (A : Int)) ∧ W' = W))
    (Ob : Hide (∀ W : World, Calls Try.prog 19 #[.int .i64 (w : Int), .int .u64 b] W fun e W' => e = .returned (.int .u64 (B : Int)) ∧ W' = W)) :
    Calls Try.prog 6 #[.int .u8 op, .int .u8 n, .int .u64 a, .int .u64 b] W fun e W' => e = .returned (.bool true) ∧ Below W.heap.size W W' := by
  have C := hide (@Two_from W w A B hw m (o := op) hm oA oB 0 2 (two_none (by omega)))
  have D := hide (@One_from W w A hw m (o := op) hm oA x 0 hx)
  simp only [show ((0 : Nat) : Int) = 0 from rfl, show ((2 : Nat) : Int) = 2 from rfl] at C D
  have T := @lnone_calls W w (nanN w) hw (nan_lt_pow hw) true (na_nan hw)
  have K := hide (@works_calls W)
  have HB := hide (Below.refl W.heap.size W)
  have n7 : (op == 7) = false := by simp; omega
  have n8 : (op == 8) = false := by simp; omega
  have n9 : (op == 9) = false := by simp; omega
  have n10 : (op == 10) = false := by simp; omega
  have n11 : (op == 11) = false := by simp; omega
  subst ex
  clear hm h1 h2 hx
  have T := hide T
  clear oA oB
  rcases hw with rfl | rfl
  all_goals
    simp only [show ((32 : Nat) : Int) = 32 from rfl, show ((64 : Nat) : Int) = 64 from rfl, show ((nanN 32 : Nat) : Int) = 2143289344 from rfl, show ((nanN 64 : Nat) : Int) = 9221120237041090560 from rfl] at CW Oa Ob C D T
    go_enter Try.func6, Try.ntmps6
    go_wp2_with (first | ((with_reducible refine (CW.out _).mono ?_); rintro e w1 ⟨rfl, rfl⟩) | ((with_reducible refine (Oa.out _).mono ?_); rintro e w1 ⟨rfl, rfl⟩) | ((with_reducible refine (Ob.out _).mono ?_); rintro e w1 ⟨rfl, rfl⟩) | ((with_reducible refine (C.out _ HB.out).mono ?_); rintro e w1 ⟨rfl, hb⟩; have HB := hide hb; clear hb) | ((with_reducible refine (D.out _ HB.out).mono ?_); rintro e w1 ⟨rfl, hb⟩; have HB := hide hb; clear hb) | ((with_reducible refine (T.out _ HB.out).mono ?_); rintro e w1 ⟨rfl, hb⟩; have HB := hide hb; clear hb) | ((with_reducible refine (K.out _ HB.out).mono ?_); rintro e w1 ⟨rfl, hb⟩; have HB := hide hb; clear hb))
    go_ret
    exact ⟨rfl, HB.out⟩

set_option maxRecDepth 100000 in
set_option maxHeartbeats 1000000 in
theorem none_else {w A B : Nat} (n op a b : Int) (hw : IsW w) (oA : A < 2 ^ w) (oB : B < 2 ^ w) {m : Nat} (hm : op = (m : Int)) (h1 : m = 0 ∨ 16 < m) (W : World)
    (CW : Hide (∀ W : World, Calls Try.prog 18 #[.int .u8 n] W fun e W' => e = .returned (.int .i64 (w : Int)) ∧ W' = W))
    (Oa : Hide (∀ W : World, Calls Try.prog 19 #[.int .i64 (w : Int), .int .u64 a] W fun e W' => e = .returned (.int .u64 (A : Int)) ∧ W' = W))
    (Ob : Hide (∀ W : World, Calls Try.prog 19 #[.int .i64 (w : Int), .int .u64 b] W fun e W' => e = .returned (.int .u64 (B : Int)) ∧ W' = W)) :
    Calls Try.prog 6 #[.int .u8 op, .int .u8 n, .int .u64 a, .int .u64 b] W fun e W' => e = .returned (.bool true) ∧ Below W.heap.size W W' := by
  have C := hide (@Two_from W w A B hw m (o := op) hm oA oB 0 2 (two_none (by omega)))
  have D := hide (@One_from W w A hw m (o := op) hm oA 0 2 (one_none (by omega)))
  simp only [show ((0 : Nat) : Int) = 0 from rfl, show ((2 : Nat) : Int) = 2 from rfl] at C D
  have T := @lnone_calls W w (nanN w) hw (nan_lt_pow hw) true (na_nan hw)
  have K := hide (@works_calls W)
  have HB := hide (Below.refl W.heap.size W)
  have n7 : (op == 7) = false := by simp; omega
  have n8 : (op == 8) = false := by simp; omega
  have n9 : (op == 9) = false := by simp; omega
  have n10 : (op == 10) = false := by simp; omega
  have n11 : (op == 11) = false := by simp; omega
  clear hm h1
  have T := hide T
  clear oA oB
  rcases hw with rfl | rfl
  all_goals
    simp only [show ((32 : Nat) : Int) = 32 from rfl, show ((64 : Nat) : Int) = 64 from rfl, show ((nanN 32 : Nat) : Int) = 2143289344 from rfl, show ((nanN 64 : Nat) : Int) = 9221120237041090560 from rfl] at CW Oa Ob C D T
    go_enter Try.func6, Try.ntmps6
    go_wp2_with (first | ((with_reducible refine (CW.out _).mono ?_); rintro e w1 ⟨rfl, rfl⟩) | ((with_reducible refine (Oa.out _).mono ?_); rintro e w1 ⟨rfl, rfl⟩) | ((with_reducible refine (Ob.out _).mono ?_); rintro e w1 ⟨rfl, rfl⟩) | ((with_reducible refine (C.out _ HB.out).mono ?_); rintro e w1 ⟨rfl, hb⟩; have HB := hide hb; clear hb) | ((with_reducible refine (D.out _ HB.out).mono ?_); rintro e w1 ⟨rfl, hb⟩; have HB := hide hb; clear hb) | ((with_reducible refine (T.out _ HB.out).mono ?_); rintro e w1 ⟨rfl, hb⟩; have HB := hide hb; clear hb) | ((with_reducible refine (K.out _ HB.out).mono ?_); rintro e w1 ⟨rfl, hb⟩; have HB := hide hb; clear hb))
    go_ret
    exact ⟨rfl, HB.out⟩

set_option maxRecDepth 100000 in
set_option maxHeartbeats 1000000 in
theorem none_7 {w A B : Nat} (n op a b : Int) (hw : IsW w) (oA : A < 2 ^ w) (oB : B < 2 ^ w)  (W : World)
    (CW : Hide (∀ W : World, Calls Try.prog 18 #[.int .u8 n] W fun e W' => e = .returned (.int .i64 (w : Int)) ∧ W' = W))
    (Oa : Hide (∀ W : World, Calls Try.prog 19 #[.int .i64 (w : Int), .int .u64 a] W fun e W' => e = .returned (.int .u64 (A : Int)) ∧ W' = W))
    (Ob : Hide (∀ W : World, Calls Try.prog 19 #[.int .i64 (w : Int), .int .u64 b] W fun e W' => e = .returned (.int .u64 (B : Int)) ∧ W' = W)) :
    Calls Try.prog 6 #[.int .u8 7, .int .u8 n, .int .u64 a, .int .u64 b] W fun e W' => e = .returned (.bool true) ∧ Below W.heap.size W W' := by
  obtain ⟨x, hx⟩ : ∃ x, two 7 w A B = (x, 0) := ⟨_, rfl⟩
  have C := hide (@Two_from W w A B hw 7 (o := 7) rfl oA oB x 0 hx)
  have D := hide (@One_from W w A hw 7 (o := 7) rfl oA 0 2 (one_none (by omega)))
  simp only [show ((0 : Nat) : Int) = 0 from rfl, show ((2 : Nat) : Int) = 2 from rfl] at C D
  have T := @lnone_calls W w (nanN w) hw (nan_lt_pow hw) true (na_nan hw)
  have K := hide (@works_calls W)
  have HB := hide (Below.refl W.heap.size W)
  clear hx
  have T := hide T
  clear oA oB
  rcases hw with rfl | rfl
  all_goals
    simp only [show ((32 : Nat) : Int) = 32 from rfl, show ((64 : Nat) : Int) = 64 from rfl, show ((nanN 32 : Nat) : Int) = 2143289344 from rfl, show ((nanN 64 : Nat) : Int) = 9221120237041090560 from rfl] at CW Oa Ob C D T
    go_enter Try.func6, Try.ntmps6
    go_wp2_with (first | ((with_reducible refine (CW.out _).mono ?_); rintro e w1 ⟨rfl, rfl⟩) | ((with_reducible refine (Oa.out _).mono ?_); rintro e w1 ⟨rfl, rfl⟩) | ((with_reducible refine (Ob.out _).mono ?_); rintro e w1 ⟨rfl, rfl⟩) | ((with_reducible refine (C.out _ HB.out).mono ?_); rintro e w1 ⟨rfl, hb⟩; have HB := hide hb; clear hb) | ((with_reducible refine (D.out _ HB.out).mono ?_); rintro e w1 ⟨rfl, hb⟩; have HB := hide hb; clear hb) | ((with_reducible refine (T.out _ HB.out).mono ?_); rintro e w1 ⟨rfl, hb⟩; have HB := hide hb; clear hb) | ((with_reducible refine (K.out _ HB.out).mono ?_); rintro e w1 ⟨rfl, hb⟩; have HB := hide hb; clear hb))
    go_ret
    exact ⟨rfl, HB.out⟩

set_option maxRecDepth 100000 in
set_option maxHeartbeats 1000000 in
theorem none_8 {w A B : Nat} (n op a b : Int) (hw : IsW w) (oA : A < 2 ^ w) (oB : B < 2 ^ w)  (W : World)
    (CW : Hide (∀ W : World, Calls Try.prog 18 #[.int .u8 n] W fun e W' => e = .returned (.int .i64 (w : Int)) ∧ W' = W))
    (Oa : Hide (∀ W : World, Calls Try.prog 19 #[.int .i64 (w : Int), .int .u64 a] W fun e W' => e = .returned (.int .u64 (A : Int)) ∧ W' = W))
    (Ob : Hide (∀ W : World, Calls Try.prog 19 #[.int .i64 (w : Int), .int .u64 b] W fun e W' => e = .returned (.int .u64 (B : Int)) ∧ W' = W)) :
    Calls Try.prog 6 #[.int .u8 8, .int .u8 n, .int .u64 a, .int .u64 b] W fun e W' => e = .returned (.bool true) ∧ Below W.heap.size W W' := by
  obtain ⟨x, hx⟩ : ∃ x, two 8 w A B = (x, 0) := ⟨_, rfl⟩
  have C := hide (@Two_from W w A B hw 8 (o := 8) rfl oA oB x 0 hx)
  have D := hide (@One_from W w A hw 8 (o := 8) rfl oA 0 2 (one_none (by omega)))
  simp only [show ((0 : Nat) : Int) = 0 from rfl, show ((2 : Nat) : Int) = 2 from rfl] at C D
  have T := @lnone_calls W w (nanN w) hw (nan_lt_pow hw) true (na_nan hw)
  have K := hide (@works_calls W)
  have HB := hide (Below.refl W.heap.size W)
  clear hx
  have T := hide T
  clear oA oB
  rcases hw with rfl | rfl
  all_goals
    simp only [show ((32 : Nat) : Int) = 32 from rfl, show ((64 : Nat) : Int) = 64 from rfl, show ((nanN 32 : Nat) : Int) = 2143289344 from rfl, show ((nanN 64 : Nat) : Int) = 9221120237041090560 from rfl] at CW Oa Ob C D T
    go_enter Try.func6, Try.ntmps6
    go_wp2_with (first | ((with_reducible refine (CW.out _).mono ?_); rintro e w1 ⟨rfl, rfl⟩) | ((with_reducible refine (Oa.out _).mono ?_); rintro e w1 ⟨rfl, rfl⟩) | ((with_reducible refine (Ob.out _).mono ?_); rintro e w1 ⟨rfl, rfl⟩) | ((with_reducible refine (C.out _ HB.out).mono ?_); rintro e w1 ⟨rfl, hb⟩; have HB := hide hb; clear hb) | ((with_reducible refine (D.out _ HB.out).mono ?_); rintro e w1 ⟨rfl, hb⟩; have HB := hide hb; clear hb) | ((with_reducible refine (T.out _ HB.out).mono ?_); rintro e w1 ⟨rfl, hb⟩; have HB := hide hb; clear hb) | ((with_reducible refine (K.out _ HB.out).mono ?_); rintro e w1 ⟨rfl, hb⟩; have HB := hide hb; clear hb))
    go_ret
    exact ⟨rfl, HB.out⟩

set_option maxRecDepth 100000 in
set_option maxHeartbeats 1000000 in
theorem none_9 {w A B : Nat} (n op a b : Int) (hw : IsW w) (oA : A < 2 ^ w) (oB : B < 2 ^ w)  (W : World)
    (CW : Hide (∀ W : World, Calls Try.prog 18 #[.int .u8 n] W fun e W' => e = .returned (.int .i64 (w : Int)) ∧ W' = W))
    (Oa : Hide (∀ W : World, Calls Try.prog 19 #[.int .i64 (w : Int), .int .u64 a] W fun e W' => e = .returned (.int .u64 (A : Int)) ∧ W' = W))
    (Ob : Hide (∀ W : World, Calls Try.prog 19 #[.int .i64 (w : Int), .int .u64 b] W fun e W' => e = .returned (.int .u64 (B : Int)) ∧ W' = W)) :
    Calls Try.prog 6 #[.int .u8 9, .int .u8 n, .int .u64 a, .int .u64 b] W fun e W' => e = .returned (.bool true) ∧ Below W.heap.size W W' := by
  obtain ⟨x, hx⟩ : ∃ x, two 9 w A B = (x, 0) := ⟨_, rfl⟩
  have C := hide (@Two_from W w A B hw 9 (o := 9) rfl oA oB x 0 hx)
  have D := hide (@One_from W w A hw 9 (o := 9) rfl oA 0 2 (one_none (by omega)))
  simp only [show ((0 : Nat) : Int) = 0 from rfl, show ((2 : Nat) : Int) = 2 from rfl] at C D
  have T := @lnone_calls W w (nanN w) hw (nan_lt_pow hw) true (na_nan hw)
  have K := hide (@works_calls W)
  have HB := hide (Below.refl W.heap.size W)
  clear hx
  have T := hide T
  clear oA oB
  rcases hw with rfl | rfl
  all_goals
    simp only [show ((32 : Nat) : Int) = 32 from rfl, show ((64 : Nat) : Int) = 64 from rfl, show ((nanN 32 : Nat) : Int) = 2143289344 from rfl, show ((nanN 64 : Nat) : Int) = 9221120237041090560 from rfl] at CW Oa Ob C D T
    go_enter Try.func6, Try.ntmps6
    go_wp2_with (first | ((with_reducible refine (CW.out _).mono ?_); rintro e w1 ⟨rfl, rfl⟩) | ((with_reducible refine (Oa.out _).mono ?_); rintro e w1 ⟨rfl, rfl⟩) | ((with_reducible refine (Ob.out _).mono ?_); rintro e w1 ⟨rfl, rfl⟩) | ((with_reducible refine (C.out _ HB.out).mono ?_); rintro e w1 ⟨rfl, hb⟩; have HB := hide hb; clear hb) | ((with_reducible refine (D.out _ HB.out).mono ?_); rintro e w1 ⟨rfl, hb⟩; have HB := hide hb; clear hb) | ((with_reducible refine (T.out _ HB.out).mono ?_); rintro e w1 ⟨rfl, hb⟩; have HB := hide hb; clear hb) | ((with_reducible refine (K.out _ HB.out).mono ?_); rintro e w1 ⟨rfl, hb⟩; have HB := hide hb; clear hb))
    go_ret
    exact ⟨rfl, HB.out⟩

set_option maxRecDepth 100000 in
set_option maxHeartbeats 1000000 in
theorem none_10 {w A B : Nat} (n op a b : Int) (hw : IsW w) (oA : A < 2 ^ w) (oB : B < 2 ^ w)  (W : World)
    (CW : Hide (∀ W : World, Calls Try.prog 18 #[.int .u8 n] W fun e W' => e = .returned (.int .i64 (w : Int)) ∧ W' = W))
    (Oa : Hide (∀ W : World, Calls Try.prog 19 #[.int .i64 (w : Int), .int .u64 a] W fun e W' => e = .returned (.int .u64 (A : Int)) ∧ W' = W))
    (Ob : Hide (∀ W : World, Calls Try.prog 19 #[.int .i64 (w : Int), .int .u64 b] W fun e W' => e = .returned (.int .u64 (B : Int)) ∧ W' = W)) :
    Calls Try.prog 6 #[.int .u8 10, .int .u8 n, .int .u64 a, .int .u64 b] W fun e W' => e = .returned (.bool true) ∧ Below W.heap.size W W' := by
  obtain ⟨x, hx⟩ : ∃ x, one 10 w A = (x, 0) := ⟨_, rfl⟩
  have C := hide (@Two_from W w A B hw 10 (o := 10) rfl oA oB 0 2 (two_none (by omega)))
  have D := hide (@One_from W w A hw 10 (o := 10) rfl oA x 0 hx)
  simp only [show ((0 : Nat) : Int) = 0 from rfl, show ((2 : Nat) : Int) = 2 from rfl] at C D
  have T := @lnone_calls W w (nanN w) hw (nan_lt_pow hw) true (na_nan hw)
  have K := hide (@works_calls W)
  have HB := hide (Below.refl W.heap.size W)
  clear hx
  have T := hide T
  clear oA oB
  rcases hw with rfl | rfl
  all_goals
    simp only [show ((32 : Nat) : Int) = 32 from rfl, show ((64 : Nat) : Int) = 64 from rfl, show ((nanN 32 : Nat) : Int) = 2143289344 from rfl, show ((nanN 64 : Nat) : Int) = 9221120237041090560 from rfl] at CW Oa Ob C D T
    go_enter Try.func6, Try.ntmps6
    go_wp2_with (first | ((with_reducible refine (CW.out _).mono ?_); rintro e w1 ⟨rfl, rfl⟩) | ((with_reducible refine (Oa.out _).mono ?_); rintro e w1 ⟨rfl, rfl⟩) | ((with_reducible refine (Ob.out _).mono ?_); rintro e w1 ⟨rfl, rfl⟩) | ((with_reducible refine (C.out _ HB.out).mono ?_); rintro e w1 ⟨rfl, hb⟩; have HB := hide hb; clear hb) | ((with_reducible refine (D.out _ HB.out).mono ?_); rintro e w1 ⟨rfl, hb⟩; have HB := hide hb; clear hb) | ((with_reducible refine (T.out _ HB.out).mono ?_); rintro e w1 ⟨rfl, hb⟩; have HB := hide hb; clear hb) | ((with_reducible refine (K.out _ HB.out).mono ?_); rintro e w1 ⟨rfl, hb⟩; have HB := hide hb; clear hb))
    go_ret
    exact ⟨rfl, HB.out⟩

set_option maxRecDepth 100000 in
set_option maxHeartbeats 1000000 in
theorem none_11 {w A B : Nat} (n op a b : Int) (hw : IsW w) (oA : A < 2 ^ w) (oB : B < 2 ^ w)  (W : World)
    (CW : Hide (∀ W : World, Calls Try.prog 18 #[.int .u8 n] W fun e W' => e = .returned (.int .i64 (w : Int)) ∧ W' = W))
    (Oa : Hide (∀ W : World, Calls Try.prog 19 #[.int .i64 (w : Int), .int .u64 a] W fun e W' => e = .returned (.int .u64 (A : Int)) ∧ W' = W))
    (Ob : Hide (∀ W : World, Calls Try.prog 19 #[.int .i64 (w : Int), .int .u64 b] W fun e W' => e = .returned (.int .u64 (B : Int)) ∧ W' = W)) :
    Calls Try.prog 6 #[.int .u8 11, .int .u8 n, .int .u64 a, .int .u64 b] W fun e W' => e = .returned (.bool true) ∧ Below W.heap.size W W' := by
  obtain ⟨x, hx⟩ : ∃ x, one 11 w A = (x, 0) := ⟨_, rfl⟩
  have C := hide (@Two_from W w A B hw 11 (o := 11) rfl oA oB 0 2 (two_none (by omega)))
  have D := hide (@One_from W w A hw 11 (o := 11) rfl oA x 0 hx)
  simp only [show ((0 : Nat) : Int) = 0 from rfl, show ((2 : Nat) : Int) = 2 from rfl] at C D
  have T := @lnone_calls W w (nanN w) hw (nan_lt_pow hw) true (na_nan hw)
  have K := hide (@works_calls W)
  have HB := hide (Below.refl W.heap.size W)
  clear hx
  have T := hide T
  clear oA oB
  rcases hw with rfl | rfl
  all_goals
    simp only [show ((32 : Nat) : Int) = 32 from rfl, show ((64 : Nat) : Int) = 64 from rfl, show ((nanN 32 : Nat) : Int) = 2143289344 from rfl, show ((nanN 64 : Nat) : Int) = 9221120237041090560 from rfl] at CW Oa Ob C D T
    go_enter Try.func6, Try.ntmps6
    go_wp2_with (first | ((with_reducible refine (CW.out _).mono ?_); rintro e w1 ⟨rfl, rfl⟩) | ((with_reducible refine (Oa.out _).mono ?_); rintro e w1 ⟨rfl, rfl⟩) | ((with_reducible refine (Ob.out _).mono ?_); rintro e w1 ⟨rfl, rfl⟩) | ((with_reducible refine (C.out _ HB.out).mono ?_); rintro e w1 ⟨rfl, hb⟩; have HB := hide hb; clear hb) | ((with_reducible refine (D.out _ HB.out).mono ?_); rintro e w1 ⟨rfl, hb⟩; have HB := hide hb; clear hb) | ((with_reducible refine (T.out _ HB.out).mono ?_); rintro e w1 ⟨rfl, hb⟩; have HB := hide hb; clear hb) | ((with_reducible refine (K.out _ HB.out).mono ?_); rintro e w1 ⟨rfl, hb⟩; have HB := hide hb; clear hb))
    go_ret
    exact ⟨rfl, HB.out⟩

theorem FloatsNone_calls (op n a b : Int) (wo : (Lit.int .u8 op).wf = true) (w0 : (Lit.int .u8 n).wf = true) (w1 : (Lit.int .u64 a).wf = true) (w2 : (Lit.int .u64 b).wf = true) (W : World) :
    Calls Try.prog 6 #[.int .u8 op, .int .u8 n, .int .u64 a, .int .u64 b] W fun e W' => e = .returned (.bool true) ∧ Below W.heap.size W W' := by
  obtain ⟨op, rfl⟩ := wf8 wo
  obtain ⟨n, rfl⟩ := wf8 w0
  obtain ⟨a, rfl, ha⟩ := wf64 w1
  obtain ⟨b, rfl, hb⟩ := wf64 w2
  have hw := wd_isW n
  have CW := hide (lwidth_calls n)
  generalize wd n = w at *
  have Oa := hide (lof_calls hw a ha)
  have oa := cut_lt w a
  generalize a % 2 ^ w = A at *
  have Ob := hide (lof_calls hw b hb)
  have ob := cut_lt w b
  generalize b % 2 ^ w = B at *
  clear w0 w1 ha w2 hb
  by_cases h1 : 1 ≤ op ∧ op ≤ 6
  · obtain ⟨x, hx, lx, ex⟩ := two_fine hw oa ob h1.1 h1.2
    cases c : na w x with
    | true => exact none_twox _ _ _ _ hw oa ob rfl h1.1 h1.2 hx (ex c) W CW Oa Ob
    | false => exact none_twon _ _ _ _ hw oa ob rfl h1.1 h1.2 hx lx c W CW Oa Ob
  · by_cases h2 : 12 ≤ op ∧ op ≤ 16
    · obtain ⟨x, hx, lx, ex⟩ := one_fine (a := A) hw h2.1 h2.2
      cases c : na w x with
      | true => exact none_onex _ _ _ _ hw oa ob rfl h2.1 h2.2 hx (ex c) W CW Oa Ob
      | false => exact none_onen _ _ _ _ hw oa ob rfl h2.1 h2.2 hx lx c W CW Oa Ob
    · by_cases h3 : op = 0 ∨ 16 < op
      · exact none_else _ _ _ _ hw oa ob rfl h3 W CW Oa Ob
      · rcases (show op = 7 ∨ op = 8 ∨ op = 9 ∨ op = 10 ∨ op = 11 by omega) with rfl | rfl | rfl | rfl | rfl
        · exact none_7 _ (op := 0) _ _ hw oa ob W CW Oa Ob
        · exact none_8 _ (op := 0) _ _ hw oa ob W CW Oa Ob
        · exact none_9 _ (op := 0) _ _ hw oa ob W CW Oa Ob
        · exact none_10 _ (op := 0) _ _ hw oa ob W CW Oa Ob
        · exact none_11 _ (op := 0) _ _ hw oa ob W CW Oa Ob

theorem arN_comm {w a b : Nat} : arN 1 w b a = arN 1 w a b ∧ arN 3 w b a = arN 3 w a b := by
  constructor
  · show ((fm w).add b a).getD (nanN w) = ((fm w).add a b).getD (nanN w)
    rw [add_comm']
  · show ((fm w).mul b a).getD (nanN w) = ((fm w).mul a b).getD (nanN w)
    rw [mul_comm']
theorem arN_sub {w a b : Nat} (hw : IsW w) (hb : b < 2 ^ w) : arN 2 w a b = arN 1 w a (flip w b) := by
  show ((fm w).sub a b).getD (nanN w) = ((fm w).add a (flip w b)).getD (nanN w)
  rw [sub_add hw hb]

set_option maxRecDepth 100000 in
set_option maxHeartbeats 1000000 in
theorem FloatsOrder_calls (n a b : Int) (w0 : (Lit.int .u8 n).wf = true) (w1 : (Lit.int .u64 a).wf = true) (w2 : (Lit.int .u64 b).wf = true) (W : World) :
    Calls Try.prog 7 #[.int .u8 n, .int .u64 a, .int .u64 b] W fun e W' => e = .returned (.bool true) ∧ Below W.heap.size W W' := by
  obtain ⟨n, rfl⟩ := wf8 w0
  obtain ⟨a, rfl, ha⟩ := wf64 w1
  obtain ⟨b, rfl, hb⟩ := wf64 w2
  have hw := wd_isW n
  have CW := hide (lwidth_calls n)
  generalize wd n = w at *
  have Oa := hide (lof_calls hw a ha)
  have oa := cut_lt w a
  generalize a % 2 ^ w = A at *
  have Ob := hide (lof_calls hw b hb)
  have ob := cut_lt w b
  generalize b % 2 ^ w = B at *
  clear w0 w1 ha w2 hb
  have C1 := hide (@ltwo_calls W w A B hw 1 (o := 1) rfl oa ob (arN 1 w A B) 0 (rfl))
  have C2 := hide (@ltwo_calls W w B A hw 1 (o := 1) rfl ob oa (arN 1 w A B) 0 (congrArg (·, 0) arN_comm.1))
  have C3 := hide (@ltwo_calls W w A B hw 3 (o := 3) rfl oa ob (arN 3 w A B) 0 (rfl))
  have C4 := hide (@ltwo_calls W w B A hw 3 (o := 3) rfl ob oa (arN 3 w A B) 0 (congrArg (·, 0) arN_comm.2))
  have C5 := hide (@ltwo_calls W w A B hw 2 (o := 2) rfl oa ob (arN 2 w A B) 0 (rfl))
  have C6 := hide (@lone_calls W w B hw 11 (o := 11) rfl ob (flip w B) 0 (rfl))
  have C7 := hide (@ltwo_calls W w A (flip w B) hw 1 (o := 1) rfl oa (flip_lt hw ob) (arN 2 w A B) 0 (congrArg (·, 0) (arN_sub hw ob).symm))
  generalize arN 1 w A B = p at *
  generalize arN 2 w A B = q at *
  generalize arN 3 w A B = r at *
  generalize flip w B = f at *
  have K := hide (@works_calls W)
  have HB := hide (Below.refl W.heap.size W)
  clear oa ob hw
  go_enter Try.func7, Try.ntmps7
  go_wp2_with (first | ((with_reducible refine (CW.out _).mono ?_); rintro e w1 ⟨rfl, rfl⟩) | ((with_reducible refine (Oa.out _).mono ?_); rintro e w1 ⟨rfl, rfl⟩) | ((with_reducible refine (Ob.out _).mono ?_); rintro e w1 ⟨rfl, rfl⟩) | ((with_reducible refine (C1.out _ HB.out).mono ?_); rintro e w1 ⟨rfl, hb⟩; have HB := hide hb; clear hb) | ((with_reducible refine (C2.out _ HB.out).mono ?_); rintro e w1 ⟨rfl, hb⟩; have HB := hide hb; clear hb) | ((with_reducible refine (C3.out _ HB.out).mono ?_); rintro e w1 ⟨rfl, hb⟩; have HB := hide hb; clear hb) | ((with_reducible refine (C4.out _ HB.out).mono ?_); rintro e w1 ⟨rfl, hb⟩; have HB := hide hb; clear hb) | ((with_reducible refine (C5.out _ HB.out).mono ?_); rintro e w1 ⟨rfl, hb⟩; have HB := hide hb; clear hb) | ((with_reducible refine (C6.out _ HB.out).mono ?_); rintro e w1 ⟨rfl, hb⟩; have HB := hide hb; clear hb) | ((with_reducible refine (C7.out _ HB.out).mono ?_); rintro e w1 ⟨rfl, hb⟩; have HB := hide hb; clear hb) | ((with_reducible refine (K.out _ HB.out).mono ?_); rintro e w1 ⟨rfl, hb⟩; have HB := hide hb; clear hb))
  go_ret
  exact ⟨rfl, HB.out⟩

theorem shift_sum {w b r : Nat} (hw : IsW w) (h : r < signN w) : (signOf w b + r) / 2 ^ (w - 1) = if neg (fm w) b = true then 1 else 0 := by
  rw [← sign_pow hw]
  have hp : 0 < signN w := sign_pos _
  unfold signOf
  split
  · rw [Nat.add_div_left _ hp, Nat.div_eq_of_lt h]
  · rw [Nat.zero_add, Nat.div_eq_of_lt h]
theorem shift_word {w b : Nat} (hw : IsW w) (hb : b < 2 ^ w) : b / 2 ^ (w - 1) = if neg (fm w) b = true then 1 else 0 := by
  have h := shift_sum (b := b) hw (rung_lt (fm w) b)
  rw [← parts hw hb] at h
  exact h
theorem signOf_zero (w : Nat) : signOf w 0 = 0 := by unfold signOf; rw [neg_self (sign_pos _)]; rfl
theorem flip_ne {w a : Nat} (hw : IsW w) (ha : a < 2 ^ w) : flip w a ≠ a := by
  intro h
  have := flip_neg hw ha
  rw [h] at this
  cases c : neg (fm w) a <;> rw [c] at this <;> cases this

set_option maxRecDepth 100000 in
set_option maxHeartbeats 1000000 in
theorem FloatsSigns_calls (n a b : Int) (w0 : (Lit.int .u8 n).wf = true) (w1 : (Lit.int .u64 a).wf = true) (w2 : (Lit.int .u64 b).wf = true) (W : World) :
    Calls Try.prog 8 #[.int .u8 n, .int .u64 a, .int .u64 b] W fun e W' => e = .returned (.bool true) ∧ Below W.heap.size W W' := by
  obtain ⟨n, rfl⟩ := wf8 w0
  obtain ⟨a, rfl, ha⟩ := wf64 w1
  obtain ⟨b, rfl, hb⟩ := wf64 w2
  have hw := wd_isW n
  have CW := hide (lwidth_calls n)
  generalize wd n = w at *
  have Oa := hide (lof_calls hw a ha)
  have oa := cut_lt w a
  generalize a % 2 ^ w = A at *
  have Ob := hide (lof_calls hw b hb)
  have ob := cut_lt w b
  generalize b % 2 ^ w = B at *
  clear w0 w1 ha w2 hb
  have hr : rung (fm w) A < signN w := rung_lt _ _
  have hp : 0 < signN w := sign_pos _
  have oc := signSum_lt hw B hr
  have of := flip_lt hw oa
  have C1 := hide (@lone_calls W w A hw 10 (o := 10) rfl oa (rung (fm w) A) 0 (rfl))
  have C2 := hide (@lone_calls W w A hw 11 (o := 11) rfl oa (flip w A) 0 (rfl))
  have C3 := hide (@lone_calls W w (flip w A) hw 11 (o := 11) rfl of A 0 (congrArg (·, 0) (flip_flip hw oa)))
  have C4 := hide (@lone_calls W w (flip w A) hw 10 (o := 10) rfl of (rung (fm w) A) 0 (congrArg (·, 0) (flip_rung hw oa)))
  have C5 := hide (@ltwo_calls W w A 0 hw 7 (o := 7) rfl oa (Nat.two_pow_pos w) (rung (fm w) A) 0 (congrArg (·, 0) (show signOf w 0 + rung (fm w) A = rung (fm w) A by rw [signOf_zero, Nat.zero_add])))
  have C6 := hide (@ltwo_calls W w A B hw 7 (o := 7) rfl oa ob (signOf w B + rung (fm w) A) 0 (rfl))
  have C7 := hide (@lone_calls W w (signOf w B + rung (fm w) A) hw 10 (o := 10) rfl oc (rung (fm w) A) 0 (congrArg (·, 0) (rungSign B hr)))
  simp only [show ((0 : Nat) : Int) = 0 from rfl] at C5
  have s1 : (rung (fm w) A : Int) / 2 ^ (w - 1) = 0 := by
    have h : rung (fm w) A / 2 ^ (w - 1) = 0 := by rw [← sign_pow hw]; exact Nat.div_eq_of_lt hr
    have : ((rung (fm w) A / 2 ^ (w - 1) : Nat) : Int) = 0 := by rw [h]; rfl
    simpa using this
  have s2 : ((signOf w B + rung (fm w) A : Nat) : Int) / 2 ^ (w - 1) = (B : Int) / 2 ^ (w - 1) := by
    have h : (signOf w B + rung (fm w) A) / 2 ^ (w - 1) = B / 2 ^ (w - 1) := by rw [shift_sum hw hr, shift_word hw ob]
    have : (((signOf w B + rung (fm w) A) / 2 ^ (w - 1) : Nat) : Int) = ((B / 2 ^ (w - 1) : Nat) : Int) := by rw [h]
    simpa using this
  have s3 : ((flip w A : Int) == (A : Int)) = false := by
    have := flip_ne hw oa
    simp; omega
  have hle : w ≤ 64 := by rcases hw with rfl | rfl <;> decide
  have hge : 1 ≤ w := by rcases hw with rfl | rfl <;> decide
  generalize signOf w B + rung (fm w) A = c at *
  generalize rung (fm w) A = r at *
  generalize flip w A = f at *
  have K := hide (@works_calls W)
  have HB := hide (Below.refl W.heap.size W)
  clear oa ob oc of hr hp hw
  go_enter Try.func8, Try.ntmps8
  go_wp2_with (first | ((with_reducible refine (CW.out _).mono ?_); rintro e w1 ⟨rfl, rfl⟩) | ((with_reducible refine (Oa.out _).mono ?_); rintro e w1 ⟨rfl, rfl⟩) | ((with_reducible refine (Ob.out _).mono ?_); rintro e w1 ⟨rfl, rfl⟩) | ((with_reducible refine (C1.out _ HB.out).mono ?_); rintro e w1 ⟨rfl, hb⟩; have HB := hide hb; clear hb) | ((with_reducible refine (C2.out _ HB.out).mono ?_); rintro e w1 ⟨rfl, hb⟩; have HB := hide hb; clear hb) | ((with_reducible refine (C3.out _ HB.out).mono ?_); rintro e w1 ⟨rfl, hb⟩; have HB := hide hb; clear hb) | ((with_reducible refine (C4.out _ HB.out).mono ?_); rintro e w1 ⟨rfl, hb⟩; have HB := hide hb; clear hb) | ((with_reducible refine (C5.out _ HB.out).mono ?_); rintro e w1 ⟨rfl, hb⟩; have HB := hide hb; clear hb) | ((with_reducible refine (C6.out _ HB.out).mono ?_); rintro e w1 ⟨rfl, hb⟩; have HB := hide hb; clear hb) | ((with_reducible refine (C7.out _ HB.out).mono ?_); rintro e w1 ⟨rfl, hb⟩; have HB := hide hb; clear hb) | ((with_reducible refine (K.out _ HB.out).mono ?_); rintro e w1 ⟨rfl, hb⟩; have HB := hide hb; clear hb))
  go_ret
  exact ⟨rfl, HB.out⟩

end Go.Proofs.Ytgmakjmlkepfbaa
