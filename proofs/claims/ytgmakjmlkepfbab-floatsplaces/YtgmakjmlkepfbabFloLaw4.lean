/-
  FloatsLeast, FloatsRoot, FloatsPlaces (genflo.py wrote it).
-/
import Derived.Test.YtgmakjmlkepfbabFloFacts
set_option linter.unusedVariables false
set_option linter.unusedSimpArgs false
namespace Go.Proofs.Ytgmakjmlkepfbab
open Go.RowKit Flo

theorem leastN_nan {w a b : Nat} (low : Bool) (ho : ordN w a b = none) : leastN low w a b = nanN w := by
  unfold leastN
  rcases ord_none ho with h | h <;> rw [h] <;> simp
theorem leastN_some {w a b : Nat} (low : Bool) {c : Ordering} (ho : ordN w a b = some c) : leastN low w a b = if c = .eq then (if low then a ||| b else a &&& b) else if (c == .lt) == low then a else b := by
  obtain ⟨h1, h2⟩ := ord_some ho
  unfold leastN
  rw [h1, h2, same_ord, less_ord, ho]
  cases c <;> cases low <;> rfl
theorem ord_place {w a b : Nat} {c : Ordering} (ho : ordN w a b = some c) : compare (place (fm w) a) (place (fm w) b) = c := by
  obtain ⟨h1, h2⟩ := ord_some ho
  unfold ordN at ho
  rw [h1, h2] at ho
  exact Option.some.inj ho
theorem ord_ne {w a b : Nat} {c : Ordering} (ho : ordN w a b = some c) (hc : c ≠ .eq) : a ≠ b := by
  intro h
  subst h
  have := ord_place ho
  rw [cmp_of_eq rfl] at this
  exact hc this.symm
theorem ord_same {w a b : Nat} (ho : ordN w a b = some .eq) : place (fm w) a = place (fm w) b := by
  have := ord_place ho
  rcases Int.lt_trichotomy (place (fm w) a) (place (fm w) b) with c | c | c
  · rw [cmp_of_lt c] at this; cases this
  · exact c
  · rw [cmp_of_gt c] at this; cases this

set_option maxRecDepth 100000 in
set_option maxHeartbeats 1000000 in
theorem least_x {w A B : Nat} (n a b : Int) (hw : IsW w) (oa : A < 2 ^ w) (ob : B < 2 ^ w) (ho : ordN w A B = none) (hA : na w A = true) (W : World)
    (CW : Hide (∀ W : World, Calls Try.prog 7 #[.int .u8 n] W fun e W' => e = .returned (.int .i64 (w : Int)) ∧ W' = W))
    (Oa : Hide (∀ W : World, Calls Try.prog 8 #[.int .i64 (w : Int), .int .u64 a] W fun e W' => e = .returned (.int .u64 (A : Int)) ∧ W' = W))
    (Ob : Hide (∀ W : World, Calls Try.prog 8 #[.int .i64 (w : Int), .int .u64 b] W fun e W' => e = .returned (.int .u64 (B : Int)) ∧ W' = W)) :
    Calls Try.prog 3 #[.int .u8 n, .int .u64 a, .int .u64 b] W fun e W' => e = .returned (.bool true) ∧ Below W.heap.size W W' := by
  have H17 := hide (@lthan_calls W w A B hw 17 (o := 17) rfl oa ob false 0 (show (sameN w A B, 0) = _ by rw [same_ord w A B, ho]; rfl))
  have H18 := hide (@lthan_calls W w A B hw 18 (o := 18) rfl oa ob true 0 (show (!sameN w A B, 0) = _ by rw [same_ord w A B, ho]; rfl))
  have H19 := hide (@lthan_calls W w A B hw 19 (o := 19) rfl oa ob false 0 (show (lessN w A B, 0) = _ by rw [less_ord w A B, ho]; rfl))
  have H20 := hide (@lthan_calls W w A B hw 20 (o := 20) rfl oa ob false 0 (show (lessN w B A, 0) = _ by rw [more_ord w A B, ho]; rfl))
  have H21 := hide (@lthan_calls W w A B hw 21 (o := 21) rfl oa ob false 0 (show (lessN w A B || sameN w A B, 0) = _ by rw [less_ord w A B, same_ord w A B, ho]; rfl))
  have H22 := hide (@lthan_calls W w A B hw 22 (o := 22) rfl oa ob false 0 (show (lessN w B A || sameN w A B, 0) = _ by rw [more_ord w A B, same_ord w A B, ho]; rfl))
  have M5 := hide (@ltwo_calls W w A B hw 5 (o := 5) rfl oa ob (nanN w) 0 (congrArg (·, 0) (leastN_nan true ho)))
  have M6 := hide (@ltwo_calls W w A B hw 6 (o := 6) rfl oa ob (nanN w) 0 (congrArg (·, 0) (leastN_nan false ho)))
  have NN := hide (@lnone_calls W w (nanN w) hw (nan_lt_pow hw) true (na_nan hw))
  have NA := hide (@lnone_calls W w A hw oa true (hA))
  have K := hide (@works_calls W)
  have HB := hide (Below.refl W.heap.size W)
  clear hA
  generalize nanN w = z at *
  clear hw oa ob ho
  go_enter Try.func3, Try.ntmps3
  go_wp2_with (first | ((with_reducible refine (CW.out _).mono ?_); rintro e w1 ⟨rfl, rfl⟩) | ((with_reducible refine (Oa.out _).mono ?_); rintro e w1 ⟨rfl, rfl⟩) | ((with_reducible refine (Ob.out _).mono ?_); rintro e w1 ⟨rfl, rfl⟩) | ((with_reducible refine (H17.out _ HB.out).mono ?_); rintro e w1 ⟨rfl, hb⟩; have HB := hide hb; clear hb) | ((with_reducible refine (H18.out _ HB.out).mono ?_); rintro e w1 ⟨rfl, hb⟩; have HB := hide hb; clear hb) | ((with_reducible refine (H19.out _ HB.out).mono ?_); rintro e w1 ⟨rfl, hb⟩; have HB := hide hb; clear hb) | ((with_reducible refine (H20.out _ HB.out).mono ?_); rintro e w1 ⟨rfl, hb⟩; have HB := hide hb; clear hb) | ((with_reducible refine (H21.out _ HB.out).mono ?_); rintro e w1 ⟨rfl, hb⟩; have HB := hide hb; clear hb) | ((with_reducible refine (H22.out _ HB.out).mono ?_); rintro e w1 ⟨rfl, hb⟩; have HB := hide hb; clear hb) | ((with_reducible refine (M5.out _ HB.out).mono ?_); rintro e w1 ⟨rfl, hb⟩; have HB := hide hb; clear hb) | ((with_reducible refine (M6.out _ HB.out).mono ?_); rintro e w1 ⟨rfl, hb⟩; have HB := hide hb; clear hb) | ((with_reducible refine (NN.out _ HB.out).mono ?_); rintro e w1 ⟨rfl, hb⟩; have HB := hide hb; clear hb) | ((with_reducible refine (NA.out _ HB.out).mono ?_); rintro e w1 ⟨rfl, hb⟩; have HB := hide hb; clear hb) | ((with_reducible refine (K.out _ HB.out).mono ?_); rintro e w1 ⟨rfl, hb⟩; have HB := hide hb; clear hb))
  go_ret
  exact ⟨rfl, HB.out⟩

set_option maxRecDepth 100000 in
set_option maxHeartbeats 1000000 in
theorem least_y {w A B : Nat} (n a b : Int) (hw : IsW w) (oa : A < 2 ^ w) (ob : B < 2 ^ w) (ho : ordN w A B = none) (hA : na w A = false) (hB : na w B = true) (W : World)
    (CW : Hide (∀ W : World, Calls Try.prog 7 #[.int .u8 n] W fun e W' => e = .returned (.int .i64 (w : Int)) ∧ W' = W))
    (Oa : Hide (∀ W : World, Calls Try.prog 8 #[.int .i64 (w : Int), .int .u64 a] W fun e W' => e = .returned (.int .u64 (A : Int)) ∧ W' = W))
    (Ob : Hide (∀ W : World, Calls Try.prog 8 #[.int .i64 (w : Int), .int .u64 b] W fun e W' => e = .returned (.int .u64 (B : Int)) ∧ W' = W)) :
    Calls Try.prog 3 #[.int .u8 n, .int .u64 a, .int .u64 b] W fun e W' => e = .returned (.bool true) ∧ Below W.heap.size W W' := by
  have H17 := hide (@lthan_calls W w A B hw 17 (o := 17) rfl oa ob false 0 (show (sameN w A B, 0) = _ by rw [same_ord w A B, ho]; rfl))
  have H18 := hide (@lthan_calls W w A B hw 18 (o := 18) rfl oa ob true 0 (show (!sameN w A B, 0) = _ by rw [same_ord w A B, ho]; rfl))
  have H19 := hide (@lthan_calls W w A B hw 19 (o := 19) rfl oa ob false 0 (show (lessN w A B, 0) = _ by rw [less_ord w A B, ho]; rfl))
  have H20 := hide (@lthan_calls W w A B hw 20 (o := 20) rfl oa ob false 0 (show (lessN w B A, 0) = _ by rw [more_ord w A B, ho]; rfl))
  have H21 := hide (@lthan_calls W w A B hw 21 (o := 21) rfl oa ob false 0 (show (lessN w A B || sameN w A B, 0) = _ by rw [less_ord w A B, same_ord w A B, ho]; rfl))
  have H22 := hide (@lthan_calls W w A B hw 22 (o := 22) rfl oa ob false 0 (show (lessN w B A || sameN w A B, 0) = _ by rw [more_ord w A B, same_ord w A B, ho]; rfl))
  have M5 := hide (@ltwo_calls W w A B hw 5 (o := 5) rfl oa ob (nanN w) 0 (congrArg (·, 0) (leastN_nan true ho)))
  have M6 := hide (@ltwo_calls W w A B hw 6 (o := 6) rfl oa ob (nanN w) 0 (congrArg (·, 0) (leastN_nan false ho)))
  have NN := hide (@lnone_calls W w (nanN w) hw (nan_lt_pow hw) true (na_nan hw))
  have NA := hide (@lnone_calls W w A hw oa false (hA))
  have NB := hide (@lnone_calls W w B hw ob true (hB))
  have K := hide (@works_calls W)
  have HB := hide (Below.refl W.heap.size W)
  clear hA hB
  generalize nanN w = z at *
  clear hw oa ob ho
  go_enter Try.func3, Try.ntmps3
  go_wp2_with (first | ((with_reducible refine (CW.out _).mono ?_); rintro e w1 ⟨rfl, rfl⟩) | ((with_reducible refine (Oa.out _).mono ?_); rintro e w1 ⟨rfl, rfl⟩) | ((with_reducible refine (Ob.out _).mono ?_); rintro e w1 ⟨rfl, rfl⟩) | ((with_reducible refine (H17.out _ HB.out).mono ?_); rintro e w1 ⟨rfl, hb⟩; have HB := hide hb; clear hb) | ((with_reducible refine (H18.out _ HB.out).mono ?_); rintro e w1 ⟨rfl, hb⟩; have HB := hide hb; clear hb) | ((with_reducible refine (H19.out _ HB.out).mono ?_); rintro e w1 ⟨rfl, hb⟩; have HB := hide hb; clear hb) | ((with_reducible refine (H20.out _ HB.out).mono ?_); rintro e w1 ⟨rfl, hb⟩; have HB := hide hb; clear hb) | ((with_reducible refine (H21.out _ HB.out).mono ?_); rintro e w1 ⟨rfl, hb⟩; have HB := hide hb; clear hb) | ((with_reducible refine (H22.out _ HB.out).mono ?_); rintro e w1 ⟨rfl, hb⟩; have HB := hide hb; clear hb) | ((with_reducible refine (M5.out _ HB.out).mono ?_); rintro e w1 ⟨rfl, hb⟩; have HB := hide hb; clear hb) | ((with_reducible refine (M6.out _ HB.out).mono ?_); rintro e w1 ⟨rfl, hb⟩; have HB := hide hb; clear hb) | ((with_reducible refine (NN.out _ HB.out).mono ?_); rintro e w1 ⟨rfl, hb⟩; have HB := hide hb; clear hb) | ((with_reducible refine (NA.out _ HB.out).mono ?_); rintro e w1 ⟨rfl, hb⟩; have HB := hide hb; clear hb) | ((with_reducible refine (NB.out _ HB.out).mono ?_); rintro e w1 ⟨rfl, hb⟩; have HB := hide hb; clear hb) | ((with_reducible refine (K.out _ HB.out).mono ?_); rintro e w1 ⟨rfl, hb⟩; have HB := hide hb; clear hb))
  go_ret
  exact ⟨rfl, HB.out⟩

set_option maxRecDepth 100000 in
set_option maxHeartbeats 1000000 in
theorem least_lt {w A B : Nat} (n a b : Int) (hw : IsW w) (oa : A < 2 ^ w) (ob : B < 2 ^ w) (ho : ordN w A B = some .lt) (W : World)
    (CW : Hide (∀ W : World, Calls Try.prog 7 #[.int .u8 n] W fun e W' => e = .returned (.int .i64 (w : Int)) ∧ W' = W))
    (Oa : Hide (∀ W : World, Calls Try.prog 8 #[.int .i64 (w : Int), .int .u64 a] W fun e W' => e = .returned (.int .u64 (A : Int)) ∧ W' = W))
    (Ob : Hide (∀ W : World, Calls Try.prog 8 #[.int .i64 (w : Int), .int .u64 b] W fun e W' => e = .returned (.int .u64 (B : Int)) ∧ W' = W)) :
    Calls Try.prog 3 #[.int .u8 n, .int .u64 a, .int .u64 b] W fun e W' => e = .returned (.bool true) ∧ Below W.heap.size W W' := by
  have H17 := hide (@lthan_calls W w A B hw 17 (o := 17) rfl oa ob false 0 (show (sameN w A B, 0) = _ by rw [same_ord w A B, ho]; rfl))
  have H18 := hide (@lthan_calls W w A B hw 18 (o := 18) rfl oa ob true 0 (show (!sameN w A B, 0) = _ by rw [same_ord w A B, ho]; rfl))
  have H19 := hide (@lthan_calls W w A B hw 19 (o := 19) rfl oa ob true 0 (show (lessN w A B, 0) = _ by rw [less_ord w A B, ho]; rfl))
  have H20 := hide (@lthan_calls W w A B hw 20 (o := 20) rfl oa ob false 0 (show (lessN w B A, 0) = _ by rw [more_ord w A B, ho]; rfl))
  have H21 := hide (@lthan_calls W w A B hw 21 (o := 21) rfl oa ob true 0 (show (lessN w A B || sameN w A B, 0) = _ by rw [less_ord w A B, same_ord w A B, ho]; rfl))
  have H22 := hide (@lthan_calls W w A B hw 22 (o := 22) rfl oa ob false 0 (show (lessN w B A || sameN w A B, 0) = _ by rw [more_ord w A B, same_ord w A B, ho]; rfl))
  have NA := hide (@lnone_calls W w A hw oa false ((ord_some ho).1))
  have NB := hide (@lnone_calls W w B hw ob false ((ord_some ho).2))
  have M5 := hide (@ltwo_calls W w A B hw 5 (o := 5) rfl oa ob A 0 (congrArg (·, 0) ((leastN_some true ho).trans rfl)))
  have M6 := hide (@ltwo_calls W w A B hw 6 (o := 6) rfl oa ob B 0 (congrArg (·, 0) ((leastN_some false ho).trans rfl)))
  have K := hide (@works_calls W)
  have HB := hide (Below.refl W.heap.size W)
  have ne0 := ord_ne ho (by decide)
  have ne1 : ((B : Int) == (A : Int)) = false := by simp; omega
  have ne2 : ((A : Int) == (B : Int)) = false := by simp; omega
  clear ne0
  clear hw oa ob ho
  go_enter Try.func3, Try.ntmps3
  go_wp2_with (first | ((with_reducible refine (CW.out _).mono ?_); rintro e w1 ⟨rfl, rfl⟩) | ((with_reducible refine (Oa.out _).mono ?_); rintro e w1 ⟨rfl, rfl⟩) | ((with_reducible refine (Ob.out _).mono ?_); rintro e w1 ⟨rfl, rfl⟩) | ((with_reducible refine (H17.out _ HB.out).mono ?_); rintro e w1 ⟨rfl, hb⟩; have HB := hide hb; clear hb) | ((with_reducible refine (H18.out _ HB.out).mono ?_); rintro e w1 ⟨rfl, hb⟩; have HB := hide hb; clear hb) | ((with_reducible refine (H19.out _ HB.out).mono ?_); rintro e w1 ⟨rfl, hb⟩; have HB := hide hb; clear hb) | ((with_reducible refine (H20.out _ HB.out).mono ?_); rintro e w1 ⟨rfl, hb⟩; have HB := hide hb; clear hb) | ((with_reducible refine (H21.out _ HB.out).mono ?_); rintro e w1 ⟨rfl, hb⟩; have HB := hide hb; clear hb) | ((with_reducible refine (H22.out _ HB.out).mono ?_); rintro e w1 ⟨rfl, hb⟩; have HB := hide hb; clear hb) | ((with_reducible refine (M5.out _ HB.out).mono ?_); rintro e w1 ⟨rfl, hb⟩; have HB := hide hb; clear hb) | ((with_reducible refine (M6.out _ HB.out).mono ?_); rintro e w1 ⟨rfl, hb⟩; have HB := hide hb; clear hb) | ((with_reducible refine (NA.out _ HB.out).mono ?_); rintro e w1 ⟨rfl, hb⟩; have HB := hide hb; clear hb) | ((with_reducible refine (NB.out _ HB.out).mono ?_); rintro e w1 ⟨rfl, hb⟩; have HB := hide hb; clear hb) | ((with_reducible refine (K.out _ HB.out).mono ?_); rintro e w1 ⟨rfl, hb⟩; have HB := hide hb; clear hb))
  go_ret
  exact ⟨rfl, HB.out⟩

set_option maxRecDepth 100000 in
set_option maxHeartbeats 1000000 in
theorem least_gt {w A B : Nat} (n a b : Int) (hw : IsW w) (oa : A < 2 ^ w) (ob : B < 2 ^ w) (ho : ordN w A B = some .gt) (W : World)
    (CW : Hide (∀ W : World, Calls Try.prog 7 #[.int .u8 n] W fun e W' => e = .returned (.int .i64 (w : Int)) ∧ W' = W))
    (Oa : Hide (∀ W : World, Calls Try.prog 8 #[.int .i64 (w : Int), .int .u64 a] W fun e W' => e = .returned (.int .u64 (A : Int)) ∧ W' = W))
    (Ob : Hide (∀ W : World, Calls Try.prog 8 #[.int .i64 (w : Int), .int .u64 b] W fun e W' => e = .returned (.int .u64 (B : Int)) ∧ W' = W)) :
    Calls Try.prog 3 #[.int .u8 n, .int .u64 a, .int .u64 b] W fun e W' => e = .returned (.bool true) ∧ Below W.heap.size W W' := by
  have H17 := hide (@lthan_calls W w A B hw 17 (o := 17) rfl oa ob false 0 (show (sameN w A B, 0) = _ by rw [same_ord w A B, ho]; rfl))
  have H18 := hide (@lthan_calls W w A B hw 18 (o := 18) rfl oa ob true 0 (show (!sameN w A B, 0) = _ by rw [same_ord w A B, ho]; rfl))
  have H19 := hide (@lthan_calls W w A B hw 19 (o := 19) rfl oa ob false 0 (show (lessN w A B, 0) = _ by rw [less_ord w A B, ho]; rfl))
  have H20 := hide (@lthan_calls W w A B hw 20 (o := 20) rfl oa ob true 0 (show (lessN w B A, 0) = _ by rw [more_ord w A B, ho]; rfl))
  have H21 := hide (@lthan_calls W w A B hw 21 (o := 21) rfl oa ob false 0 (show (lessN w A B || sameN w A B, 0) = _ by rw [less_ord w A B, same_ord w A B, ho]; rfl))
  have H22 := hide (@lthan_calls W w A B hw 22 (o := 22) rfl oa ob true 0 (show (lessN w B A || sameN w A B, 0) = _ by rw [more_ord w A B, same_ord w A B, ho]; rfl))
  have NA := hide (@lnone_calls W w A hw oa false ((ord_some ho).1))
  have NB := hide (@lnone_calls W w B hw ob false ((ord_some ho).2))
  have M5 := hide (@ltwo_calls W w A B hw 5 (o := 5) rfl oa ob B 0 (congrArg (·, 0) ((leastN_some true ho).trans rfl)))
  have M6 := hide (@ltwo_calls W w A B hw 6 (o := 6) rfl oa ob A 0 (congrArg (·, 0) ((leastN_some false ho).trans rfl)))
  have K := hide (@works_calls W)
  have HB := hide (Below.refl W.heap.size W)
  have ne0 := ord_ne ho (by decide)
  have ne1 : ((B : Int) == (A : Int)) = false := by simp; omega
  have ne2 : ((A : Int) == (B : Int)) = false := by simp; omega
  clear ne0
  clear hw oa ob ho
  go_enter Try.func3, Try.ntmps3
  go_wp2_with (first | ((with_reducible refine (CW.out _).mono ?_); rintro e w1 ⟨rfl, rfl⟩) | ((with_reducible refine (Oa.out _).mono ?_); rintro e w1 ⟨rfl, rfl⟩) | ((with_reducible refine (Ob.out _).mono ?_); rintro e w1 ⟨rfl, rfl⟩) | ((with_reducible refine (H17.out _ HB.out).mono ?_); rintro e w1 ⟨rfl, hb⟩; have HB := hide hb; clear hb) | ((with_reducible refine (H18.out _ HB.out).mono ?_); rintro e w1 ⟨rfl, hb⟩; have HB := hide hb; clear hb) | ((with_reducible refine (H19.out _ HB.out).mono ?_); rintro e w1 ⟨rfl, hb⟩; have HB := hide hb; clear hb) | ((with_reducible refine (H20.out _ HB.out).mono ?_); rintro e w1 ⟨rfl, hb⟩; have HB := hide hb; clear hb) | ((with_reducible refine (H21.out _ HB.out).mono ?_); rintro e w1 ⟨rfl, hb⟩; have HB := hide hb; clear hb) | ((with_reducible refine (H22.out _ HB.out).mono ?_); rintro e w1 ⟨rfl, hb⟩; have HB := hide hb; clear hb) | ((with_reducible refine (M5.out _ HB.out).mono ?_); rintro e w1 ⟨rfl, hb⟩; have HB := hide hb; clear hb) | ((with_reducible refine (M6.out _ HB.out).mono ?_); rintro e w1 ⟨rfl, hb⟩; have HB := hide hb; clear hb) | ((with_reducible refine (NA.out _ HB.out).mono ?_); rintro e w1 ⟨rfl, hb⟩; have HB := hide hb; clear hb) | ((with_reducible refine (NB.out _ HB.out).mono ?_); rintro e w1 ⟨rfl, hb⟩; have HB := hide hb; clear hb) | ((with_reducible refine (K.out _ HB.out).mono ?_); rintro e w1 ⟨rfl, hb⟩; have HB := hide hb; clear hb))
  go_ret
  exact ⟨rfl, HB.out⟩

set_option maxRecDepth 100000 in
set_option maxHeartbeats 1000000 in
theorem least_eqab {w A B : Nat} (n a b : Int) (hw : IsW w) (oa : A < 2 ^ w) (ob : B < 2 ^ w) (ho : ordN w A B = some .eq) (he1 : A ||| B = A) (he2 : A &&& B = B) (W : World)
    (CW : Hide (∀ W : World, Calls Try.prog 7 #[.int .u8 n] W fun e W' => e = .returned (.int .i64 (w : Int)) ∧ W' = W))
    (Oa : Hide (∀ W : World, Calls Try.prog 8 #[.int .i64 (w : Int), .int .u64 a] W fun e W' => e = .returned (.int .u64 (A : Int)) ∧ W' = W))
    (Ob : Hide (∀ W : World, Calls Try.prog 8 #[.int .i64 (w : Int), .int .u64 b] W fun e W' => e = .returned (.int .u64 (B : Int)) ∧ W' = W)) :
    Calls Try.prog 3 #[.int .u8 n, .int .u64 a, .int .u64 b] W fun e W' => e = .returned (.bool true) ∧ Below W.heap.size W W' := by
  have H17 := hide (@lthan_calls W w A B hw 17 (o := 17) rfl oa ob true 0 (show (sameN w A B, 0) = _ by rw [same_ord w A B, ho]; rfl))
  have H18 := hide (@lthan_calls W w A B hw 18 (o := 18) rfl oa ob false 0 (show (!sameN w A B, 0) = _ by rw [same_ord w A B, ho]; rfl))
  have H19 := hide (@lthan_calls W w A B hw 19 (o := 19) rfl oa ob false 0 (show (lessN w A B, 0) = _ by rw [less_ord w A B, ho]; rfl))
  have H20 := hide (@lthan_calls W w A B hw 20 (o := 20) rfl oa ob false 0 (show (lessN w B A, 0) = _ by rw [more_ord w A B, ho]; rfl))
  have H21 := hide (@lthan_calls W w A B hw 21 (o := 21) rfl oa ob true 0 (show (lessN w A B || sameN w A B, 0) = _ by rw [less_ord w A B, same_ord w A B, ho]; rfl))
  have H22 := hide (@lthan_calls W w A B hw 22 (o := 22) rfl oa ob true 0 (show (lessN w B A || sameN w A B, 0) = _ by rw [more_ord w A B, same_ord w A B, ho]; rfl))
  have NA := hide (@lnone_calls W w A hw oa false ((ord_some ho).1))
  have NB := hide (@lnone_calls W w B hw ob false ((ord_some ho).2))
  have M5 := hide (@ltwo_calls W w A B hw 5 (o := 5) rfl oa ob A 0 (congrArg (·, 0) ((leastN_some true ho).trans he1)))
  have M6 := hide (@ltwo_calls W w A B hw 6 (o := 6) rfl oa ob B 0 (congrArg (·, 0) ((leastN_some false ho).trans he2)))
  have K := hide (@works_calls W)
  have HB := hide (Below.refl W.heap.size W)
  clear he1 he2
  clear hw oa ob ho
  go_enter Try.func3, Try.ntmps3
  go_wp2_with (first | ((with_reducible refine (CW.out _).mono ?_); rintro e w1 ⟨rfl, rfl⟩) | ((with_reducible refine (Oa.out _).mono ?_); rintro e w1 ⟨rfl, rfl⟩) | ((with_reducible refine (Ob.out _).mono ?_); rintro e w1 ⟨rfl, rfl⟩) | ((with_reducible refine (H17.out _ HB.out).mono ?_); rintro e w1 ⟨rfl, hb⟩; have HB := hide hb; clear hb) | ((with_reducible refine (H18.out _ HB.out).mono ?_); rintro e w1 ⟨rfl, hb⟩; have HB := hide hb; clear hb) | ((with_reducible refine (H19.out _ HB.out).mono ?_); rintro e w1 ⟨rfl, hb⟩; have HB := hide hb; clear hb) | ((with_reducible refine (H20.out _ HB.out).mono ?_); rintro e w1 ⟨rfl, hb⟩; have HB := hide hb; clear hb) | ((with_reducible refine (H21.out _ HB.out).mono ?_); rintro e w1 ⟨rfl, hb⟩; have HB := hide hb; clear hb) | ((with_reducible refine (H22.out _ HB.out).mono ?_); rintro e w1 ⟨rfl, hb⟩; have HB := hide hb; clear hb) | ((with_reducible refine (M5.out _ HB.out).mono ?_); rintro e w1 ⟨rfl, hb⟩; have HB := hide hb; clear hb) | ((with_reducible refine (M6.out _ HB.out).mono ?_); rintro e w1 ⟨rfl, hb⟩; have HB := hide hb; clear hb) | ((with_reducible refine (NA.out _ HB.out).mono ?_); rintro e w1 ⟨rfl, hb⟩; have HB := hide hb; clear hb) | ((with_reducible refine (NB.out _ HB.out).mono ?_); rintro e w1 ⟨rfl, hb⟩; have HB := hide hb; clear hb) | ((with_reducible refine (K.out _ HB.out).mono ?_); rintro e w1 ⟨rfl, hb⟩; have HB := hide hb; clear hb))
  go_ret
  exact ⟨rfl, HB.out⟩

set_option maxRecDepth 100000 in
set_option maxHeartbeats 1000000 in
theorem least_eqba {w A B : Nat} (n a b : Int) (hw : IsW w) (oa : A < 2 ^ w) (ob : B < 2 ^ w) (ho : ordN w A B = some .eq) (he1 : A ||| B = B) (he2 : A &&& B = A) (ne0 : A ≠ B) (W : World)
    (CW : Hide (∀ W : World, Calls Try.prog 7 #[.int .u8 n] W fun e W' => e = .returned (.int .i64 (w : Int)) ∧ W' = W))
    (Oa : Hide (∀ W : World, Calls Try.prog 8 #[.int .i64 (w : Int), .int .u64 a] W fun e W' => e = .returned (.int .u64 (A : Int)) ∧ W' = W))
    (Ob : Hide (∀ W : World, Calls Try.prog 8 #[.int .i64 (w : Int), .int .u64 b] W fun e W' => e = .returned (.int .u64 (B : Int)) ∧ W' = W)) :
    Calls Try.prog 3 #[.int .u8 n, .int .u64 a, .int .u64 b] W fun e W' => e = .returned (.bool true) ∧ Below W.heap.size W W' := by
  have H17 := hide (@lthan_calls W w A B hw 17 (o := 17) rfl oa ob true 0 (show (sameN w A B, 0) = _ by rw [same_ord w A B, ho]; rfl))
  have H18 := hide (@lthan_calls W w A B hw 18 (o := 18) rfl oa ob false 0 (show (!sameN w A B, 0) = _ by rw [same_ord w A B, ho]; rfl))
  have H19 := hide (@lthan_calls W w A B hw 19 (o := 19) rfl oa ob false 0 (show (lessN w A B, 0) = _ by rw [less_ord w A B, ho]; rfl))
  have H20 := hide (@lthan_calls W w A B hw 20 (o := 20) rfl oa ob false 0 (show (lessN w B A, 0) = _ by rw [more_ord w A B, ho]; rfl))
  have H21 := hide (@lthan_calls W w A B hw 21 (o := 21) rfl oa ob true 0 (show (lessN w A B || sameN w A B, 0) = _ by rw [less_ord w A B, same_ord w A B, ho]; rfl))
  have H22 := hide (@lthan_calls W w A B hw 22 (o := 22) rfl oa ob true 0 (show (lessN w B A || sameN w A B, 0) = _ by rw [more_ord w A B, same_ord w A B, ho]; rfl))
  have NA := hide (@lnone_calls W w A hw oa false ((ord_some ho).1))
  have NB := hide (@lnone_calls W w B hw ob false ((ord_some ho).2))
  have M5 := hide (@ltwo_calls W w A B hw 5 (o := 5) rfl oa ob B 0 (congrArg (·, 0) ((leastN_some true ho).trans he1)))
  have M6 := hide (@ltwo_calls W w A B hw 6 (o := 6) rfl oa ob A 0 (congrArg (·, 0) ((leastN_some false ho).trans he2)))
  have K := hide (@works_calls W)
  have HB := hide (Below.refl W.heap.size W)
  have ne1 : ((B : Int) == (A : Int)) = false := by simp; omega
  have ne2 : ((A : Int) == (B : Int)) = false := by simp; omega
  clear ne0
  clear he1 he2
  clear hw oa ob ho
  go_enter Try.func3, Try.ntmps3
  go_wp2_with (first | ((with_reducible refine (CW.out _).mono ?_); rintro e w1 ⟨rfl, rfl⟩) | ((with_reducible refine (Oa.out _).mono ?_); rintro e w1 ⟨rfl, rfl⟩) | ((with_reducible refine (Ob.out _).mono ?_); rintro e w1 ⟨rfl, rfl⟩) | ((with_reducible refine (H17.out _ HB.out).mono ?_); rintro e w1 ⟨rfl, hb⟩; have HB := hide hb; clear hb) | ((with_reducible refine (H18.out _ HB.out).mono ?_); rintro e w1 ⟨rfl, hb⟩; have HB := hide hb; clear hb) | ((with_reducible refine (H19.out _ HB.out).mono ?_); rintro e w1 ⟨rfl, hb⟩; have HB := hide hb; clear hb) | ((with_reducible refine (H20.out _ HB.out).mono ?_); rintro e w1 ⟨rfl, hb⟩; have HB := hide hb; clear hb) | ((with_reducible refine (H21.out _ HB.out).mono ?_); rintro e w1 ⟨rfl, hb⟩; have HB := hide hb; clear hb) | ((with_reducible refine (H22.out _ HB.out).mono ?_); rintro e w1 ⟨rfl, hb⟩; have HB := hide hb; clear hb) | ((with_reducible refine (M5.out _ HB.out).mono ?_); rintro e w1 ⟨rfl, hb⟩; have HB := hide hb; clear hb) | ((with_reducible refine (M6.out _ HB.out).mono ?_); rintro e w1 ⟨rfl, hb⟩; have HB := hide hb; clear hb) | ((with_reducible refine (NA.out _ HB.out).mono ?_); rintro e w1 ⟨rfl, hb⟩; have HB := hide hb; clear hb) | ((with_reducible refine (NB.out _ HB.out).mono ?_); rintro e w1 ⟨rfl, hb⟩; have HB := hide hb; clear hb) | ((with_reducible refine (K.out _ HB.out).mono ?_); rintro e w1 ⟨rfl, hb⟩; have HB := hide hb; clear hb))
  go_ret
  exact ⟨rfl, HB.out⟩

set_option maxRecDepth 100000 in
set_option maxHeartbeats 1000000 in
theorem FloatsLeast_calls (n a b : Int) (w0 : (Lit.int .u8 n).wf = true) (w1 : (Lit.int .u64 a).wf = true) (w2 : (Lit.int .u64 b).wf = true) (W : World) :
    Calls Try.prog 3 #[.int .u8 n, .int .u64 a, .int .u64 b] W fun e W' => e = .returned (.bool true) ∧ Below W.heap.size W W' := by
  obtain ⟨n, rfl⟩ := wf8 w0
  obtain ⟨a, rfl, ha⟩ := wf64 w1
  obtain ⟨b, rfl, hb⟩ := wf64 w2
  have hw := wd_isW n
  have CW := hide (lwidth_calls n)
  generalize wd n = w at *
  have Oa := hide (lof_calls hw a ha)
  have oa := cut_lt w a
  generalize a % 2 ^ w = A at *
  have Ob := hide (lof_calls hw b hb)
  have ob := cut_lt w b
  generalize b % 2 ^ w = B at *
  clear w0 w1 ha w2 hb
  cases ho : ordN w A B with
  | none =>
    cases hA : na w A with
    | true => exact least_x _ _ _ hw oa ob ho hA W CW Oa Ob
    | false => exact least_y _ _ _ hw oa ob ho hA ((ord_none ho).resolve_left (by rw [hA]; decide)) W CW Oa Ob
  | some c =>
    cases c with
    | lt => exact least_lt _ _ _ hw oa ob ho W CW Oa Ob
    | gt => exact least_gt _ _ _ hw oa ob ho W CW Oa Ob
    | eq =>
      by_cases e : A = B
      · exact least_eqab _ _ _ hw oa ob ho (by rw [e]; simp) (by rw [e]; simp) W CW Oa Ob
      · rcases or_and hw oa ob (ord_same ho) with ⟨x, y⟩ | ⟨x, y⟩
        · exact least_eqab _ _ _ hw oa ob ho x y W CW Oa Ob
        · exact least_eqba _ _ _ hw oa ob ho x y e W CW Oa Ob

theorem place_zero (w : Nat) : place (fm w) 0 = 0 := by
  unfold place sgn rung
  rw [Nat.zero_mod]
  split <;> simp
theorem neg_zero (w : Nat) : neg (fm w) 0 = false := by unfold neg; simp
theorem root_na {w a : Nat} (hw : IsW w) : na w (rootN w a) = (na w a || (neg (fm w) a && rung (fm w) a != 0)) := by
  unfold rootN
  cases h : (na w a || (neg (fm w) a && rung (fm w) a != 0)) with
  | true => rw [if_pos rfl]; exact na_nan hw
  | false => rw [if_neg (by decide)]; exact na_sum (sqN_le w _)
theorem less_zero {w a : Nat} (h : na w a = false) : lessN w a 0 = (neg (fm w) a && rung (fm w) a != 0) := by
  unfold lessN
  rw [h, (na_zero w).1, place_zero]
  simp only [Bool.not_false, Bool.true_and]
  unfold place sgn
  cases neg (fm w) a
  · simp
  · simp only [if_true, Bool.true_and]
    by_cases c : rung (fm w) a = 0
    · rw [c]; simp
    · have e : (rung (fm w) a != 0) = true := by simp [c]
      rw [e]
      exact decide_eq_true (by omega)
theorem sqN_zero (w : Nat) : sqN w 0 = 0 := by
  unfold sqN
  split
  · unfold sqS
    rw [prom_zero, sqR_zero]
    decide +kernel
  · exact sqR_zero
theorem sqN_mono {w r s : Nat} (h : r ≤ s) (hs : s ≤ (fm w).infRung) : sqN w r ≤ sqN w s := by
  unfold sqN
  split
  · rename_i e; subst e; exact sqS_mono h hs
  · exact sqR_mono h
/-- Where a root is a number: what it is made of, and its place. -/
theorem root_place {w a : Nat} (hw : IsW w) (h : na w (rootN w a) = false) : na w a = false ∧ place (fm w) a = (rung (fm w) a : Int) ∧ place (fm w) (rootN w a) = (sqN w (rung (fm w) a) : Int) := by
  rw [root_na hw] at h
  have h1 : na w a = false := by cases c : na w a <;> simp_all
  have h2 : (neg (fm w) a && rung (fm w) a != 0) = false := by rw [h1] at h; exact h
  have e : rootN w a = signOf w a + sqN w (rung (fm w) a) := by unfold rootN; rw [h]; rfl
  have hs := Nat.lt_of_le_of_lt (sqN_le w (rung (fm w) a)) inf_lt
  refine ⟨h1, ?_, ?_⟩
  · unfold place sgn
    cases c : neg (fm w) a
    · simp
    · rw [c] at h2; simp at h2; simp [h2]
  · rw [e]
    unfold place
    rw [rungSign a hs, negSign a hs]
    unfold sgn
    cases c : neg (fm w) a
    · simp
    · rw [c] at h2; simp at h2; rw [h2, sqN_zero]; simp
theorem le_place {w a b : Nat} (ha : na w a = false) (hb : na w b = false) : (lessN w a b || sameN w a b) = decide (place (fm w) a ≤ place (fm w) b) := by
  unfold lessN sameN
  rw [ha, hb]
  simp only [Bool.not_false, Bool.true_and]
  rw [← Bool.decide_or]
  congr 1
  apply propext
  omega
theorem ge_place {w a b : Nat} (ha : na w a = false) (hb : na w b = false) : (lessN w b a || sameN w a b) = decide (place (fm w) b ≤ place (fm w) a) := by
  unfold lessN sameN
  rw [ha, hb]
  simp only [Bool.not_false, Bool.true_and]
  rw [← Bool.decide_or]
  congr 1
  apply propext
  omega
theorem root_ge {w a : Nat} (hw : IsW w) (h : na w (rootN w a) = false) : (lessN w 0 (rootN w a) || sameN w (rootN w a) 0) = true := by
  rw [ge_place h (na_zero w).1, place_zero, (root_place hw h).2.2]
  exact decide_eq_true (by omega)
theorem root_le {w a b : Nat} (hw : IsW w) (h : na w (rootN w a) = false) (k : na w (rootN w b) = false) (hl : (lessN w a b || sameN w a b) = true) : (lessN w (rootN w a) (rootN w b) || sameN w (rootN w a) (rootN w b)) = true := by
  obtain ⟨a1, a2, a3⟩ := root_place hw h
  obtain ⟨b1, b2, b3⟩ := root_place hw k
  rw [le_place a1 b1, a2, b2] at hl
  rw [le_place h k, a3, b3]
  have := of_decide_eq_true hl
  have := sqN_mono (w := w) (show rung (fm w) a ≤ rung (fm w) b by omega) (na_false b1)
  exact decide_eq_true (by omega)
theorem root_lt {w a : Nat} (hw : IsW w) : rootN w a < 2 ^ w := (rootN_fine hw).1

set_option maxRecDepth 100000 in
set_option maxHeartbeats 1000000 in
theorem root_nan {w A B : Nat} (n a b : Int) (hw : IsW w) (oa : A < 2 ^ w) (ob : B < 2 ^ w) (hX : na w (rootN w A) = true) (hA : na w A = true) (W : World)
    (CW : Hide (∀ W : World, Calls Try.prog 7 #[.int .u8 n] W fun e W' => e = .returned (.int .i64 (w : Int)) ∧ W' = W))
    (Oa : Hide (∀ W : World, Calls Try.prog 8 #[.int .i64 (w : Int), .int .u64 a] W fun e W' => e = .returned (.int .u64 (A : Int)) ∧ W' = W))
    (Ob : Hide (∀ W : World, Calls Try.prog 8 #[.int .i64 (w : Int), .int .u64 b] W fun e W' => e = .returned (.int .u64 (B : Int)) ∧ W' = W)) :
    Calls Try.prog 5 #[.int .u8 n, .int .u64 a, .int .u64 b] W fun e W' => e = .returned (.bool true) ∧ Below W.heap.size W W' := by
  have X := hide (@lone_calls W w A hw 12 (o := 12) rfl oa (rootN w A) 0 (rfl))
  have Y := hide (@lone_calls W w B hw 12 (o := 12) rfl ob (rootN w B) 0 (rfl))
  have NX := hide (@lnone_calls W w (rootN w A) hw (root_lt hw) true (hX))
  have NA := hide (@lnone_calls W w A hw oa true (hA))
  have K := hide (@works_calls W)
  have HB := hide (Below.refl W.heap.size W)
  clear hw oa ob hX hA
  generalize rootN w A = x at *
  generalize rootN w B = y at *
  try simp only [show ((0 : Nat) : Int) = 0 from rfl] at Z
  try simp only [show ((0 : Nat) : Int) = 0 from rfl] at G
  go_enter Try.func5, Try.ntmps5
  go_wp2_with (first | ((with_reducible refine (CW.out _).mono ?_); rintro e w1 ⟨rfl, rfl⟩) | ((with_reducible refine (Oa.out _).mono ?_); rintro e w1 ⟨rfl, rfl⟩) | ((with_reducible refine (Ob.out _).mono ?_); rintro e w1 ⟨rfl, rfl⟩) | ((with_reducible refine (X.out _ HB.out).mono ?_); rintro e w1 ⟨rfl, hb⟩; have HB := hide hb; clear hb) | ((with_reducible refine (Y.out _ HB.out).mono ?_); rintro e w1 ⟨rfl, hb⟩; have HB := hide hb; clear hb) | ((with_reducible refine (NX.out _ HB.out).mono ?_); rintro e w1 ⟨rfl, hb⟩; have HB := hide hb; clear hb) | ((with_reducible refine (NA.out _ HB.out).mono ?_); rintro e w1 ⟨rfl, hb⟩; have HB := hide hb; clear hb) | ((with_reducible refine (K.out _ HB.out).mono ?_); rintro e w1 ⟨rfl, hb⟩; have HB := hide hb; clear hb))
  go_ret
  exact ⟨rfl, HB.out⟩

set_option maxRecDepth 100000 in
set_option maxHeartbeats 1000000 in
theorem root_neg {w A B : Nat} (n a b : Int) (hw : IsW w) (oa : A < 2 ^ w) (ob : B < 2 ^ w) (hX : na w (rootN w A) = true) (hA : na w A = false) (hl : lessN w A 0 = true) (W : World)
    (CW : Hide (∀ W : World, Calls Try.prog 7 #[.int .u8 n] W fun e W' => e = .returned (.int .i64 (w : Int)) ∧ W' = W))
    (Oa : Hide (∀ W : World, Calls Try.prog 8 #[.int .i64 (w : Int), .int .u64 a] W fun e W' => e = .returned (.int .u64 (A : Int)) ∧ W' = W))
    (Ob : Hide (∀ W : World, Calls Try.prog 8 #[.int .i64 (w : Int), .int .u64 b] W fun e W' => e = .returned (.int .u64 (B : Int)) ∧ W' = W)) :
    Calls Try.prog 5 #[.int .u8 n, .int .u64 a, .int .u64 b] W fun e W' => e = .returned (.bool true) ∧ Below W.heap.size W W' := by
  have X := hide (@lone_calls W w A hw 12 (o := 12) rfl oa (rootN w A) 0 (rfl))
  have Y := hide (@lone_calls W w B hw 12 (o := 12) rfl ob (rootN w B) 0 (rfl))
  have NX := hide (@lnone_calls W w (rootN w A) hw (root_lt hw) true (hX))
  have NA := hide (@lnone_calls W w A hw oa false (hA))
  have Z := hide (@lthan_calls W w A 0 hw 19 (o := 19) rfl oa (Nat.two_pow_pos w) true 0 (congrArg (·, 0) hl))
  have K := hide (@works_calls W)
  have HB := hide (Below.refl W.heap.size W)
  clear hw oa ob hX hA hl
  generalize rootN w A = x at *
  generalize rootN w B = y at *
  try simp only [show ((0 : Nat) : Int) = 0 from rfl] at Z
  try simp only [show ((0 : Nat) : Int) = 0 from rfl] at G
  go_enter Try.func5, Try.ntmps5
  go_wp2_with (first | ((with_reducible refine (CW.out _).mono ?_); rintro e w1 ⟨rfl, rfl⟩) | ((with_reducible refine (Oa.out _).mono ?_); rintro e w1 ⟨rfl, rfl⟩) | ((with_reducible refine (Ob.out _).mono ?_); rintro e w1 ⟨rfl, rfl⟩) | ((with_reducible refine (X.out _ HB.out).mono ?_); rintro e w1 ⟨rfl, hb⟩; have HB := hide hb; clear hb) | ((with_reducible refine (Y.out _ HB.out).mono ?_); rintro e w1 ⟨rfl, hb⟩; have HB := hide hb; clear hb) | ((with_reducible refine (NX.out _ HB.out).mono ?_); rintro e w1 ⟨rfl, hb⟩; have HB := hide hb; clear hb) | ((with_reducible refine (NA.out _ HB.out).mono ?_); rintro e w1 ⟨rfl, hb⟩; have HB := hide hb; clear hb) | ((with_reducible refine (Z.out _ HB.out).mono ?_); rintro e w1 ⟨rfl, hb⟩; have HB := hide hb; clear hb) | ((with_reducible refine (K.out _ HB.out).mono ?_); rintro e w1 ⟨rfl, hb⟩; have HB := hide hb; clear hb))
  go_ret
  exact ⟨rfl, HB.out⟩

set_option maxRecDepth 100000 in
set_option maxHeartbeats 1000000 in
theorem root_num_nan {w A B : Nat} (n a b : Int) (hw : IsW w) (oa : A < 2 ^ w) (ob : B < 2 ^ w) (hX : na w (rootN w A) = false) (hA : na w A = false) (hl : lessN w A 0 = false) (hg : (lessN w 0 (rootN w A) || sameN w (rootN w A) 0) = true) (hY : na w (rootN w B) = true) (W : World)
    (CW : Hide (∀ W : World, Calls Try.prog 7 #[.int .u8 n] W fun e W' => e = .returned (.int .i64 (w : Int)) ∧ W' = W))
    (Oa : Hide (∀ W : World, Calls Try.prog 8 #[.int .i64 (w : Int), .int .u64 a] W fun e W' => e = .returned (.int .u64 (A : Int)) ∧ W' = W))
    (Ob : Hide (∀ W : World, Calls Try.prog 8 #[.int .i64 (w : Int), .int .u64 b] W fun e W' => e = .returned (.int .u64 (B : Int)) ∧ W' = W)) :
    Calls Try.prog 5 #[.int .u8 n, .int .u64 a, .int .u64 b] W fun e W' => e = .returned (.bool true) ∧ Below W.heap.size W W' := by
  have X := hide (@lone_calls W w A hw 12 (o := 12) rfl oa (rootN w A) 0 (rfl))
  have Y := hide (@lone_calls W w B hw 12 (o := 12) rfl ob (rootN w B) 0 (rfl))
  have NX := hide (@lnone_calls W w (rootN w A) hw (root_lt hw) false (hX))
  have NA := hide (@lnone_calls W w A hw oa false (hA))
  have Z := hide (@lthan_calls W w A 0 hw 19 (o := 19) rfl oa (Nat.two_pow_pos w) false 0 (congrArg (·, 0) hl))
  have G := hide (@lthan_calls W w (rootN w A) 0 hw 22 (o := 22) rfl (root_lt hw) (Nat.two_pow_pos w) true 0 (congrArg (·, 0) hg))
  have NY := hide (@lnone_calls W w (rootN w B) hw (root_lt hw) true (hY))
  have K := hide (@works_calls W)
  have HB := hide (Below.refl W.heap.size W)
  clear hw oa ob hX hA hl hg hY
  generalize rootN w A = x at *
  generalize rootN w B = y at *
  try simp only [show ((0 : Nat) : Int) = 0 from rfl] at Z
  try simp only [show ((0 : Nat) : Int) = 0 from rfl] at G
  go_enter Try.func5, Try.ntmps5
  go_wp2_with (first | ((with_reducible refine (CW.out _).mono ?_); rintro e w1 ⟨rfl, rfl⟩) | ((with_reducible refine (Oa.out _).mono ?_); rintro e w1 ⟨rfl, rfl⟩) | ((with_reducible refine (Ob.out _).mono ?_); rintro e w1 ⟨rfl, rfl⟩) | ((with_reducible refine (X.out _ HB.out).mono ?_); rintro e w1 ⟨rfl, hb⟩; have HB := hide hb; clear hb) | ((with_reducible refine (Y.out _ HB.out).mono ?_); rintro e w1 ⟨rfl, hb⟩; have HB := hide hb; clear hb) | ((with_reducible refine (NX.out _ HB.out).mono ?_); rintro e w1 ⟨rfl, hb⟩; have HB := hide hb; clear hb) | ((with_reducible refine (NA.out _ HB.out).mono ?_); rintro e w1 ⟨rfl, hb⟩; have HB := hide hb; clear hb) | ((with_reducible refine (Z.out _ HB.out).mono ?_); rintro e w1 ⟨rfl, hb⟩; have HB := hide hb; clear hb) | ((with_reducible refine (G.out _ HB.out).mono ?_); rintro e w1 ⟨rfl, hb⟩; have HB := hide hb; clear hb) | ((with_reducible refine (NY.out _ HB.out).mono ?_); rintro e w1 ⟨rfl, hb⟩; have HB := hide hb; clear hb) | ((with_reducible refine (K.out _ HB.out).mono ?_); rintro e w1 ⟨rfl, hb⟩; have HB := hide hb; clear hb))
  go_ret
  exact ⟨rfl, HB.out⟩

set_option maxRecDepth 100000 in
set_option maxHeartbeats 1000000 in
theorem root_num_gt {w A B : Nat} (n a b : Int) (hw : IsW w) (oa : A < 2 ^ w) (ob : B < 2 ^ w) (hX : na w (rootN w A) = false) (hA : na w A = false) (hl : lessN w A 0 = false) (hg : (lessN w 0 (rootN w A) || sameN w (rootN w A) 0) = true) (hY : na w (rootN w B) = false) (hle : (lessN w A B || sameN w A B) = false) (W : World)
    (CW : Hide (∀ W : World, Calls Try.prog 7 #[.int .u8 n] W fun e W' => e = .returned (.int .i64 (w : Int)) ∧ W' = W))
    (Oa : Hide (∀ W : World, Calls Try.prog 8 #[.int .i64 (w : Int), .int .u64 a] W fun e W' => e = .returned (.int .u64 (A : Int)) ∧ W' = W))
    (Ob : Hide (∀ W : World, Calls Try.prog 8 #[.int .i64 (w : Int), .int .u64 b] W fun e W' => e = .returned (.int .u64 (B : Int)) ∧ W' = W)) :
    Calls Try.prog 5 #[.int .u8 n, .int .u64 a, .int .u64 b] W fun e W' => e = .returned (.bool true) ∧ Below W.heap.size W W' := by
  have X := hide (@lone_calls W w A hw 12 (o := 12) rfl oa (rootN w A) 0 (rfl))
  have Y := hide (@lone_calls W w B hw 12 (o := 12) rfl ob (rootN w B) 0 (rfl))
  have NX := hide (@lnone_calls W w (rootN w A) hw (root_lt hw) false (hX))
  have NA := hide (@lnone_calls W w A hw oa false (hA))
  have Z := hide (@lthan_calls W w A 0 hw 19 (o := 19) rfl oa (Nat.two_pow_pos w) false 0 (congrArg (·, 0) hl))
  have G := hide (@lthan_calls W w (rootN w A) 0 hw 22 (o := 22) rfl (root_lt hw) (Nat.two_pow_pos w) true 0 (congrArg (·, 0) hg))
  have NY := hide (@lnone_calls W w (rootN w B) hw (root_lt hw) false (hY))
  have LE := hide (@lthan_calls W w A B hw 21 (o := 21) rfl oa ob false 0 (congrArg (·, 0) hle))
  have K := hide (@works_calls W)
  have HB := hide (Below.refl W.heap.size W)
  clear hw oa ob hX hA hl hg hY hle
  generalize rootN w A = x at *
  generalize rootN w B = y at *
  try simp only [show ((0 : Nat) : Int) = 0 from rfl] at Z
  try simp only [show ((0 : Nat) : Int) = 0 from rfl] at G
  go_enter Try.func5, Try.ntmps5
  go_wp2_with (first | ((with_reducible refine (CW.out _).mono ?_); rintro e w1 ⟨rfl, rfl⟩) | ((with_reducible refine (Oa.out _).mono ?_); rintro e w1 ⟨rfl, rfl⟩) | ((with_reducible refine (Ob.out _).mono ?_); rintro e w1 ⟨rfl, rfl⟩) | ((with_reducible refine (X.out _ HB.out).mono ?_); rintro e w1 ⟨rfl, hb⟩; have HB := hide hb; clear hb) | ((with_reducible refine (Y.out _ HB.out).mono ?_); rintro e w1 ⟨rfl, hb⟩; have HB := hide hb; clear hb) | ((with_reducible refine (NX.out _ HB.out).mono ?_); rintro e w1 ⟨rfl, hb⟩; have HB := hide hb; clear hb) | ((with_reducible refine (NA.out _ HB.out).mono ?_); rintro e w1 ⟨rfl, hb⟩; have HB := hide hb; clear hb) | ((with_reducible refine (Z.out _ HB.out).mono ?_); rintro e w1 ⟨rfl, hb⟩; have HB := hide hb; clear hb) | ((with_reducible refine (G.out _ HB.out).mono ?_); rintro e w1 ⟨rfl, hb⟩; have HB := hide hb; clear hb) | ((with_reducible refine (NY.out _ HB.out).mono ?_); rintro e w1 ⟨rfl, hb⟩; have HB := hide hb; clear hb) | ((with_reducible refine (LE.out _ HB.out).mono ?_); rintro e w1 ⟨rfl, hb⟩; have HB := hide hb; clear hb) | ((with_reducible refine (K.out _ HB.out).mono ?_); rintro e w1 ⟨rfl, hb⟩; have HB := hide hb; clear hb))
  go_ret
  exact ⟨rfl, HB.out⟩

set_option maxRecDepth 100000 in
set_option maxHeartbeats 1000000 in
theorem root_num_le {w A B : Nat} (n a b : Int) (hw : IsW w) (oa : A < 2 ^ w) (ob : B < 2 ^ w) (hX : na w (rootN w A) = false) (hA : na w A = false) (hl : lessN w A 0 = false) (hg : (lessN w 0 (rootN w A) || sameN w (rootN w A) 0) = true) (hY : na w (rootN w B) = false) (hle : (lessN w A B || sameN w A B) = true) (hxy : (lessN w (rootN w A) (rootN w B) || sameN w (rootN w A) (rootN w B)) = true) (W : World)
    (CW : Hide (∀ W : World, Calls Try.prog 7 #[.int .u8 n] W fun e W' => e = .returned (.int .i64 (w : Int)) ∧ W' = W))
    (Oa : Hide (∀ W : World, Calls Try.prog 8 #[.int .i64 (w : Int), .int .u64 a] W fun e W' => e = .returned (.int .u64 (A : Int)) ∧ W' = W))
    (Ob : Hide (∀ W : World, Calls Try.prog 8 #[.int .i64 (w : Int), .int .u64 b] W fun e W' => e = .returned (.int .u64 (B : Int)) ∧ W' = W)) :
    Calls Try.prog 5 #[.int .u8 n, .int .u64 a, .int .u64 b] W fun e W' => e = .returned (.bool true) ∧ Below W.heap.size W W' := by
  have X := hide (@lone_calls W w A hw 12 (o := 12) rfl oa (rootN w A) 0 (rfl))
  have Y := hide (@lone_calls W w B hw 12 (o := 12) rfl ob (rootN w B) 0 (rfl))
  have NX := hide (@lnone_calls W w (rootN w A) hw (root_lt hw) false (hX))
  have NA := hide (@lnone_calls W w A hw oa false (hA))
  have Z := hide (@lthan_calls W w A 0 hw 19 (o := 19) rfl oa (Nat.two_pow_pos w) false 0 (congrArg (·, 0) hl))
  have G := hide (@lthan_calls W w (rootN w A) 0 hw 22 (o := 22) rfl (root_lt hw) (Nat.two_pow_pos w) true 0 (congrArg (·, 0) hg))
  have NY := hide (@lnone_calls W w (rootN w B) hw (root_lt hw) false (hY))
  have LE := hide (@lthan_calls W w A B hw 21 (o := 21) rfl oa ob true 0 (congrArg (·, 0) hle))
  have LX := hide (@lthan_calls W w (rootN w A) (rootN w B) hw 21 (o := 21) rfl (root_lt hw) (root_lt hw) true 0 (congrArg (·, 0) hxy))
  have K := hide (@works_calls W)
  have HB := hide (Below.refl W.heap.size W)
  clear hw oa ob hX hA hl hg hY hle hxy
  generalize rootN w A = x at *
  generalize rootN w B = y at *
  try simp only [show ((0 : Nat) : Int) = 0 from rfl] at Z
  try simp only [show ((0 : Nat) : Int) = 0 from rfl] at G
  go_enter Try.func5, Try.ntmps5
  go_wp2_with (first | ((with_reducible refine (CW.out _).mono ?_); rintro e w1 ⟨rfl, rfl⟩) | ((with_reducible refine (Oa.out _).mono ?_); rintro e w1 ⟨rfl, rfl⟩) | ((with_reducible refine (Ob.out _).mono ?_); rintro e w1 ⟨rfl, rfl⟩) | ((with_reducible refine (X.out _ HB.out).mono ?_); rintro e w1 ⟨rfl, hb⟩; have HB := hide hb; clear hb) | ((with_reducible refine (Y.out _ HB.out).mono ?_); rintro e w1 ⟨rfl, hb⟩; have HB := hide hb; clear hb) | ((with_reducible refine (NX.out _ HB.out).mono ?_); rintro e w1 ⟨rfl, hb⟩; have HB := hide hb; clear hb) | ((with_reducible refine (NA.out _ HB.out).mono ?_); rintro e w1 ⟨rfl, hb⟩; have HB := hide hb; clear hb) | ((with_reducible refine (Z.out _ HB.out).mono ?_); rintro e w1 ⟨rfl, hb⟩; have HB := hide hb; clear hb) | ((with_reducible refine (G.out _ HB.out).mono ?_); rintro e w1 ⟨rfl, hb⟩; have HB := hide hb; clear hb) | ((with_reducible refine (NY.out _ HB.out).mono ?_); rintro e w1 ⟨rfl, hb⟩; have HB := hide hb; clear hb) | ((with_reducible refine (LE.out _ HB.out).mono ?_); rintro e w1 ⟨rfl, hb⟩; have HB := hide hb; clear hb) | ((with_reducible refine (LX.out _ HB.out).mono ?_); rintro e w1 ⟨rfl, hb⟩; have HB := hide hb; clear hb) | ((with_reducible refine (K.out _ HB.out).mono ?_); rintro e w1 ⟨rfl, hb⟩; have HB := hide hb; clear hb))
  go_ret
  exact ⟨rfl, HB.out⟩

set_option maxRecDepth 100000 in
set_option maxHeartbeats 1000000 in
theorem FloatsRoot_calls (n a b : Int) (w0 : (Lit.int .u8 n).wf = true) (w1 : (Lit.int .u64 a).wf = true) (w2 : (Lit.int .u64 b).wf = true) (W : World) :
    Calls Try.prog 5 #[.int .u8 n, .int .u64 a, .int .u64 b] W fun e W' => e = .returned (.bool true) ∧ Below W.heap.size W W' := by
  obtain ⟨n, rfl⟩ := wf8 w0
  obtain ⟨a, rfl, ha⟩ := wf64 w1
  obtain ⟨b, rfl, hb⟩ := wf64 w2
  have hw := wd_isW n
  have CW := hide (lwidth_calls n)
  generalize wd n = w at *
  have Oa := hide (lof_calls hw a ha)
  have oa := cut_lt w a
  generalize a % 2 ^ w = A at *
  have Ob := hide (lof_calls hw b hb)
  have ob := cut_lt w b
  generalize b % 2 ^ w = B at *
  clear w0 w1 ha w2 hb
  have hr := root_na (a := A) hw
  cases hX : na w (rootN w A) with
  | true =>
    rw [hX] at hr
    cases hA : na w A with
    | true => exact root_nan _ _ _ hw oa ob hX hA W CW Oa Ob
    | false =>
      rw [hA, Bool.false_or, ← less_zero hA] at hr
      exact root_neg _ _ _ hw oa ob hX hA hr.symm W CW Oa Ob
  | false =>
    obtain ⟨hA, _, _⟩ := root_place hw hX
    rw [hX, hA, Bool.false_or, ← less_zero hA] at hr
    have hg := root_ge hw hX
    cases hY : na w (rootN w B) with
    | true => exact root_num_nan _ _ _ hw oa ob hX hA hr.symm hg hY W CW Oa Ob
    | false =>
      cases hle : (lessN w A B || sameN w A B) with
      | false => exact root_num_gt _ _ _ hw oa ob hX hA hr.symm hg hY hle W CW Oa Ob
      | true => exact root_num_le _ _ _ hw oa ob hX hA hr.symm hg hY hle (root_le hw hX hY hle) W CW Oa Ob

set_option maxRecDepth 100000 in
set_option maxHeartbeats 1000000 in
theorem places_d_0 (op : Int) {m : Nat} (hm : op = (m : Int)) (h1 : m = 0) {a b : Nat} {x y : Nat} {u v : Bool} (W : World)
    (C : Hide (∀ W1 : World, Below W.heap.size W W1 → Calls Try.prog 15 #[.int .u8 op, .int .i64 64, .int .u64 (a : Int), .int .u64 (b : Int)] W1 fun r W' => r = .returned (.tuple #[.int .u64 (x : Int), .int .i64 2]) ∧ Below W.heap.size W W'))
    (D : Hide (∀ W1 : World, Below W.heap.size W W1 → Calls Try.prog 16 #[.int .u8 op, .int .i64 64, .int .u64 (a : Int)] W1 fun r W' => r = .returned (.tuple #[.int .u64 (y : Int), .int .i64 2]) ∧ Below W.heap.size W W'))
    (T : Hide (∀ W1 : World, Below W.heap.size W W1 → Calls Try.prog 17 #[.int .u8 op, .int .i64 64, .int .u64 (a : Int), .int .u64 (b : Int)] W1 fun r W' => r = .returned (.tuple #[.bool u, .int .i64 2]) ∧ Below W.heap.size W W'))
    (N : Hide (∀ W1 : World, Below W.heap.size W W1 → Calls Try.prog 18 #[.int .i64 64, .int .u64 (a : Int)] W1 fun r W' => r = .returned (.tuple #[.bool v, .int .i64 0]) ∧ Below W.heap.size W W')) :
    Calls Try.prog 6 #[.int .u8 op, .int .i64 64, .int .u64 (a : Int), .int .u64 (b : Int)] W fun e W' => e = .returned (.bool true) ∧ Below W.heap.size W W' := by
  have p1 : decide ((op : Int) ≥ 1) = false := by simp; omega
  have p10 : decide ((op : Int) ≥ 10) = false := by simp; omega
  have p17 : decide ((op : Int) ≥ 17) = false := by simp; omega
  have q9 : decide ((op : Int) ≤ 9) = true := by simp; omega
  have q16 : decide ((op : Int) ≤ 16) = true := by simp; omega
  have q22 : decide ((op : Int) ≤ 22) = true := by simp; omega
  have K := hide (@works_calls W)
  have HB := hide (Below.refl W.heap.size W)
  clear hm h1
  go_enter Try.func6, Try.ntmps6
  go_wp2_with (first | ((with_reducible refine (C.out _ HB.out).mono ?_); rintro e w1 ⟨rfl, hb⟩; have HB := hide hb; clear hb) | ((with_reducible refine (D.out _ HB.out).mono ?_); rintro e w1 ⟨rfl, hb⟩; have HB := hide hb; clear hb) | ((with_reducible refine (T.out _ HB.out).mono ?_); rintro e w1 ⟨rfl, hb⟩; have HB := hide hb; clear hb) | ((with_reducible refine (N.out _ HB.out).mono ?_); rintro e w1 ⟨rfl, hb⟩; have HB := hide hb; clear hb) | ((with_reducible refine (K.out _ HB.out).mono ?_); rintro e w1 ⟨rfl, hb⟩; have HB := hide hb; clear hb))
  go_ret
  exact ⟨rfl, HB.out⟩

set_option maxRecDepth 100000 in
set_option maxHeartbeats 1000000 in
theorem places_d_2 (op : Int) {m : Nat} (hm : op = (m : Int)) (h1 : 1 ≤ m) (h2 : m ≤ 9) {a b : Nat} {x y : Nat} {u v : Bool} (W : World)
    (C : Hide (∀ W1 : World, Below W.heap.size W W1 → Calls Try.prog 15 #[.int .u8 op, .int .i64 64, .int .u64 (a : Int), .int .u64 (b : Int)] W1 fun r W' => r = .returned (.tuple #[.int .u64 (x : Int), .int .i64 0]) ∧ Below W.heap.size W W'))
    (D : Hide (∀ W1 : World, Below W.heap.size W W1 → Calls Try.prog 16 #[.int .u8 op, .int .i64 64, .int .u64 (a : Int)] W1 fun r W' => r = .returned (.tuple #[.int .u64 (y : Int), .int .i64 2]) ∧ Below W.heap.size W W'))
    (T : Hide (∀ W1 : World, Below W.heap.size W W1 → Calls Try.prog 17 #[.int .u8 op, .int .i64 64, .int .u64 (a : Int), .int .u64 (b : Int)] W1 fun r W' => r = .returned (.tuple #[.bool u, .int .i64 2]) ∧ Below W.heap.size W W'))
    (N : Hide (∀ W1 : World, Below W.heap.size W W1 → Calls Try.prog 18 #[.int .i64 64, .int .u64 (a : Int)] W1 fun r W' => r = .returned (.tuple #[.bool v, .int .i64 0]) ∧ Below W.heap.size W W')) :
    Calls Try.prog 6 #[.int .u8 op, .int .i64 64, .int .u64 (a : Int), .int .u64 (b : Int)] W fun e W' => e = .returned (.bool true) ∧ Below W.heap.size W W' := by
  have p1 : decide ((op : Int) ≥ 1) = true := by simp; omega
  have p10 : decide ((op : Int) ≥ 10) = false := by simp; omega
  have p17 : decide ((op : Int) ≥ 17) = false := by simp; omega
  have q9 : decide ((op : Int) ≤ 9) = true := by simp; omega
  have q16 : decide ((op : Int) ≤ 16) = true := by simp; omega
  have q22 : decide ((op : Int) ≤ 22) = true := by simp; omega
  have K := hide (@works_calls W)
  have HB := hide (Below.refl W.heap.size W)
  clear hm h1 h2
  go_enter Try.func6, Try.ntmps6
  go_wp2_with (first | ((with_reducible refine (C.out _ HB.out).mono ?_); rintro e w1 ⟨rfl, hb⟩; have HB := hide hb; clear hb) | ((with_reducible refine (D.out _ HB.out).mono ?_); rintro e w1 ⟨rfl, hb⟩; have HB := hide hb; clear hb) | ((with_reducible refine (T.out _ HB.out).mono ?_); rintro e w1 ⟨rfl, hb⟩; have HB := hide hb; clear hb) | ((with_reducible refine (N.out _ HB.out).mono ?_); rintro e w1 ⟨rfl, hb⟩; have HB := hide hb; clear hb) | ((with_reducible refine (K.out _ HB.out).mono ?_); rintro e w1 ⟨rfl, hb⟩; have HB := hide hb; clear hb))
  go_ret
  exact ⟨rfl, HB.out⟩

set_option maxRecDepth 100000 in
set_option maxHeartbeats 1000000 in
theorem places_d_1 (op : Int) {m : Nat} (hm : op = (m : Int)) (h1 : 10 ≤ m) (h2 : m ≤ 16) {a b : Nat} {x y : Nat} {u v : Bool} (W : World)
    (C : Hide (∀ W1 : World, Below W.heap.size W W1 → Calls Try.prog 15 #[.int .u8 op, .int .i64 64, .int .u64 (a : Int), .int .u64 (b : Int)] W1 fun r W' => r = .returned (.tuple #[.int .u64 (x : Int), .int .i64 2]) ∧ Below W.heap.size W W'))
    (D : Hide (∀ W1 : World, Below W.heap.size W W1 → Calls Try.prog 16 #[.int .u8 op, .int .i64 64, .int .u64 (a : Int)] W1 fun r W' => r = .returned (.tuple #[.int .u64 (y : Int), .int .i64 0]) ∧ Below W.heap.size W W'))
    (T : Hide (∀ W1 : World, Below W.heap.size W W1 → Calls Try.prog 17 #[.int .u8 op, .int .i64 64, .int .u64 (a : Int), .int .u64 (b : Int)] W1 fun r W' => r = .returned (.tuple #[.bool u, .int .i64 2]) ∧ Below W.heap.size W W'))
    (N : Hide (∀ W1 : World, Below W.heap.size W W1 → Calls Try.prog 18 #[.int .i64 64, .int .u64 (a : Int)] W1 fun r W' => r = .returned (.tuple #[.bool v, .int .i64 0]) ∧ Below W.heap.size W W')) :
    Calls Try.prog 6 #[.int .u8 op, .int .i64 64, .int .u64 (a : Int), .int .u64 (b : Int)] W fun e W' => e = .returned (.bool true) ∧ Below W.heap.size W W' := by
  have p1 : decide ((op : Int) ≥ 1) = true := by simp; omega
  have p10 : decide ((op : Int) ≥ 10) = true := by simp; omega
  have p17 : decide ((op : Int) ≥ 17) = false := by simp; omega
  have q9 : decide ((op : Int) ≤ 9) = false := by simp; omega
  have q16 : decide ((op : Int) ≤ 16) = true := by simp; omega
  have q22 : decide ((op : Int) ≤ 22) = true := by simp; omega
  have K := hide (@works_calls W)
  have HB := hide (Below.refl W.heap.size W)
  clear hm h1 h2
  go_enter Try.func6, Try.ntmps6
  go_wp2_with (first | ((with_reducible refine (C.out _ HB.out).mono ?_); rintro e w1 ⟨rfl, hb⟩; have HB := hide hb; clear hb) | ((with_reducible refine (D.out _ HB.out).mono ?_); rintro e w1 ⟨rfl, hb⟩; have HB := hide hb; clear hb) | ((with_reducible refine (T.out _ HB.out).mono ?_); rintro e w1 ⟨rfl, hb⟩; have HB := hide hb; clear hb) | ((with_reducible refine (N.out _ HB.out).mono ?_); rintro e w1 ⟨rfl, hb⟩; have HB := hide hb; clear hb) | ((with_reducible refine (K.out _ HB.out).mono ?_); rintro e w1 ⟨rfl, hb⟩; have HB := hide hb; clear hb))
  go_ret
  exact ⟨rfl, HB.out⟩

set_option maxRecDepth 100000 in
set_option maxHeartbeats 1000000 in
theorem places_d_t (op : Int) {m : Nat} (hm : op = (m : Int)) (h1 : 17 ≤ m) (h2 : m ≤ 22) {a b : Nat} {x y : Nat} {u v : Bool} (W : World)
    (C : Hide (∀ W1 : World, Below W.heap.size W W1 → Calls Try.prog 15 #[.int .u8 op, .int .i64 64, .int .u64 (a : Int), .int .u64 (b : Int)] W1 fun r W' => r = .returned (.tuple #[.int .u64 (x : Int), .int .i64 2]) ∧ Below W.heap.size W W'))
    (D : Hide (∀ W1 : World, Below W.heap.size W W1 → Calls Try.prog 16 #[.int .u8 op, .int .i64 64, .int .u64 (a : Int)] W1 fun r W' => r = .returned (.tuple #[.int .u64 (y : Int), .int .i64 2]) ∧ Below W.heap.size W W'))
    (T : Hide (∀ W1 : World, Below W.heap.size W W1 → Calls Try.prog 17 #[.int .u8 op, .int .i64 64, .int .u64 (a : Int), .int .u64 (b : Int)] W1 fun r W' => r = .returned (.tuple #[.bool u, .int .i64 0]) ∧ Below W.heap.size W W'))
    (N : Hide (∀ W1 : World, Below W.heap.size W W1 → Calls Try.prog 18 #[.int .i64 64, .int .u64 (a : Int)] W1 fun r W' => r = .returned (.tuple #[.bool v, .int .i64 0]) ∧ Below W.heap.size W W')) :
    Calls Try.prog 6 #[.int .u8 op, .int .i64 64, .int .u64 (a : Int), .int .u64 (b : Int)] W fun e W' => e = .returned (.bool true) ∧ Below W.heap.size W W' := by
  have p1 : decide ((op : Int) ≥ 1) = true := by simp; omega
  have p10 : decide ((op : Int) ≥ 10) = true := by simp; omega
  have p17 : decide ((op : Int) ≥ 17) = true := by simp; omega
  have q9 : decide ((op : Int) ≤ 9) = false := by simp; omega
  have q16 : decide ((op : Int) ≤ 16) = false := by simp; omega
  have q22 : decide ((op : Int) ≤ 22) = true := by simp; omega
  have K := hide (@works_calls W)
  have HB := hide (Below.refl W.heap.size W)
  clear hm h1 h2
  go_enter Try.func6, Try.ntmps6
  go_wp2_with (first | ((with_reducible refine (C.out _ HB.out).mono ?_); rintro e w1 ⟨rfl, hb⟩; have HB := hide hb; clear hb) | ((with_reducible refine (D.out _ HB.out).mono ?_); rintro e w1 ⟨rfl, hb⟩; have HB := hide hb; clear hb) | ((with_reducible refine (T.out _ HB.out).mono ?_); rintro e w1 ⟨rfl, hb⟩; have HB := hide hb; clear hb) | ((with_reducible refine (N.out _ HB.out).mono ?_); rintro e w1 ⟨rfl, hb⟩; have HB := hide hb; clear hb) | ((with_reducible refine (K.out _ HB.out).mono ?_); rintro e w1 ⟨rfl, hb⟩; have HB := hide hb; clear hb))
  go_ret
  exact ⟨rfl, HB.out⟩

set_option maxRecDepth 100000 in
set_option maxHeartbeats 1000000 in
theorem places_d_9 (op : Int) {m : Nat} (hm : op = (m : Int)) (h1 : 22 < m) {a b : Nat} {x y : Nat} {u v : Bool} (W : World)
    (C : Hide (∀ W1 : World, Below W.heap.size W W1 → Calls Try.prog 15 #[.int .u8 op, .int .i64 64, .int .u64 (a : Int), .int .u64 (b : Int)] W1 fun r W' => r = .returned (.tuple #[.int .u64 (x : Int), .int .i64 2]) ∧ Below W.heap.size W W'))
    (D : Hide (∀ W1 : World, Below W.heap.size W W1 → Calls Try.prog 16 #[.int .u8 op, .int .i64 64, .int .u64 (a : Int)] W1 fun r W' => r = .returned (.tuple #[.int .u64 (y : Int), .int .i64 2]) ∧ Below W.heap.size W W'))
    (T : Hide (∀ W1 : World, Below W.heap.size W W1 → Calls Try.prog 17 #[.int .u8 op, .int .i64 64, .int .u64 (a : Int), .int .u64 (b : Int)] W1 fun r W' => r = .returned (.tuple #[.bool u, .int .i64 2]) ∧ Below W.heap.size W W'))
    (N : Hide (∀ W1 : World, Below W.heap.size W W1 → Calls Try.prog 18 #[.int .i64 64, .int .u64 (a : Int)] W1 fun r W' => r = .returned (.tuple #[.bool v, .int .i64 0]) ∧ Below W.heap.size W W')) :
    Calls Try.prog 6 #[.int .u8 op, .int .i64 64, .int .u64 (a : Int), .int .u64 (b : Int)] W fun e W' => e = .returned (.bool true) ∧ Below W.heap.size W W' := by
  have p1 : decide ((op : Int) ≥ 1) = true := by simp; omega
  have p10 : decide ((op : Int) ≥ 10) = true := by simp; omega
  have p17 : decide ((op : Int) ≥ 17) = true := by simp; omega
  have q9 : decide ((op : Int) ≤ 9) = false := by simp; omega
  have q16 : decide ((op : Int) ≤ 16) = false := by simp; omega
  have q22 : decide ((op : Int) ≤ 22) = false := by simp; omega
  have K := hide (@works_calls W)
  have HB := hide (Below.refl W.heap.size W)
  clear hm h1
  go_enter Try.func6, Try.ntmps6
  go_wp2_with (first | ((with_reducible refine (C.out _ HB.out).mono ?_); rintro e w1 ⟨rfl, hb⟩; have HB := hide hb; clear hb) | ((with_reducible refine (D.out _ HB.out).mono ?_); rintro e w1 ⟨rfl, hb⟩; have HB := hide hb; clear hb) | ((with_reducible refine (T.out _ HB.out).mono ?_); rintro e w1 ⟨rfl, hb⟩; have HB := hide hb; clear hb) | ((with_reducible refine (N.out _ HB.out).mono ?_); rintro e w1 ⟨rfl, hb⟩; have HB := hide hb; clear hb) | ((with_reducible refine (K.out _ HB.out).mono ?_); rintro e w1 ⟨rfl, hb⟩; have HB := hide hb; clear hb))
  go_ret
  exact ⟨rfl, HB.out⟩

set_option maxRecDepth 100000 in
set_option maxHeartbeats 1000000 in
theorem places_s_0 (op : Int) {m : Nat} (hm : op = (m : Int)) (h1 : m = 0) {a b : Nat} (ha : a ≤ 4294967295) (hb : b ≤ 4294967295) {x y : Nat} {u v : Bool} (W : World)
    (C : Hide (∀ W1 : World, Below W.heap.size W W1 → Calls Try.prog 15 #[.int .u8 op, .int .i64 32, .int .u64 (a : Int), .int .u64 (b : Int)] W1 fun r W' => r = .returned (.tuple #[.int .u64 (x : Int), .int .i64 2]) ∧ Below W.heap.size W W'))
    (D : Hide (∀ W1 : World, Below W.heap.size W W1 → Calls Try.prog 16 #[.int .u8 op, .int .i64 32, .int .u64 (a : Int)] W1 fun r W' => r = .returned (.tuple #[.int .u64 (y : Int), .int .i64 2]) ∧ Below W.heap.size W W'))
    (T : Hide (∀ W1 : World, Below W.heap.size W W1 → Calls Try.prog 17 #[.int .u8 op, .int .i64 32, .int .u64 (a : Int), .int .u64 (b : Int)] W1 fun r W' => r = .returned (.tuple #[.bool u, .int .i64 2]) ∧ Below W.heap.size W W'))
    (N : Hide (∀ W1 : World, Below W.heap.size W W1 → Calls Try.prog 18 #[.int .i64 32, .int .u64 (a : Int)] W1 fun r W' => r = .returned (.tuple #[.bool v, .int .i64 0]) ∧ Below W.heap.size W W')) :
    Calls Try.prog 6 #[.int .u8 op, .int .i64 32, .int .u64 (a : Int), .int .u64 (b : Int)] W fun e W' => e = .returned (.bool true) ∧ Below W.heap.size W W' := by
  have p1 : decide ((op : Int) ≥ 1) = false := by simp; omega
  have p10 : decide ((op : Int) ≥ 10) = false := by simp; omega
  have p17 : decide ((op : Int) ≥ 17) = false := by simp; omega
  have q9 : decide ((op : Int) ≤ 9) = true := by simp; omega
  have q16 : decide ((op : Int) ≤ 16) = true := by simp; omega
  have q22 : decide ((op : Int) ≤ 22) = true := by simp; omega
  have K := hide (@works_calls W)
  have HB := hide (Below.refl W.heap.size W)
  have z1 : (a : Int) / 4294967296 = 0 := by omega
  have z2 : (b : Int) / 4294967296 = 0 := by omega
  clear ha hb
  clear hm h1
  go_enter Try.func6, Try.ntmps6
  go_wp2_with (first | ((with_reducible refine (C.out _ HB.out).mono ?_); rintro e w1 ⟨rfl, hb⟩; have HB := hide hb; clear hb) | ((with_reducible refine (D.out _ HB.out).mono ?_); rintro e w1 ⟨rfl, hb⟩; have HB := hide hb; clear hb) | ((with_reducible refine (T.out _ HB.out).mono ?_); rintro e w1 ⟨rfl, hb⟩; have HB := hide hb; clear hb) | ((with_reducible refine (N.out _ HB.out).mono ?_); rintro e w1 ⟨rfl, hb⟩; have HB := hide hb; clear hb) | ((with_reducible refine (K.out _ HB.out).mono ?_); rintro e w1 ⟨rfl, hb⟩; have HB := hide hb; clear hb))
  go_ret
  exact ⟨rfl, HB.out⟩

set_option maxRecDepth 100000 in
set_option maxHeartbeats 1000000 in
theorem places_s_2 (op : Int) {m : Nat} (hm : op = (m : Int)) (h1 : 1 ≤ m) (h2 : m ≤ 9) {a b : Nat} (ha : a ≤ 4294967295) (hb : b ≤ 4294967295) {x y : Nat} {u v : Bool} (W : World)
    (C : Hide (∀ W1 : World, Below W.heap.size W W1 → Calls Try.prog 15 #[.int .u8 op, .int .i64 32, .int .u64 (a : Int), .int .u64 (b : Int)] W1 fun r W' => r = .returned (.tuple #[.int .u64 (x : Int), .int .i64 0]) ∧ Below W.heap.size W W'))
    (D : Hide (∀ W1 : World, Below W.heap.size W W1 → Calls Try.prog 16 #[.int .u8 op, .int .i64 32, .int .u64 (a : Int)] W1 fun r W' => r = .returned (.tuple #[.int .u64 (y : Int), .int .i64 2]) ∧ Below W.heap.size W W'))
    (T : Hide (∀ W1 : World, Below W.heap.size W W1 → Calls Try.prog 17 #[.int .u8 op, .int .i64 32, .int .u64 (a : Int), .int .u64 (b : Int)] W1 fun r W' => r = .returned (.tuple #[.bool u, .int .i64 2]) ∧ Below W.heap.size W W'))
    (N : Hide (∀ W1 : World, Below W.heap.size W W1 → Calls Try.prog 18 #[.int .i64 32, .int .u64 (a : Int)] W1 fun r W' => r = .returned (.tuple #[.bool v, .int .i64 0]) ∧ Below W.heap.size W W')) :
    Calls Try.prog 6 #[.int .u8 op, .int .i64 32, .int .u64 (a : Int), .int .u64 (b : Int)] W fun e W' => e = .returned (.bool true) ∧ Below W.heap.size W W' := by
  have p1 : decide ((op : Int) ≥ 1) = true := by simp; omega
  have p10 : decide ((op : Int) ≥ 10) = false := by simp; omega
  have p17 : decide ((op : Int) ≥ 17) = false := by simp; omega
  have q9 : decide ((op : Int) ≤ 9) = true := by simp; omega
  have q16 : decide ((op : Int) ≤ 16) = true := by simp; omega
  have q22 : decide ((op : Int) ≤ 22) = true := by simp; omega
  have K := hide (@works_calls W)
  have HB := hide (Below.refl W.heap.size W)
  have z1 : (a : Int) / 4294967296 = 0 := by omega
  have z2 : (b : Int) / 4294967296 = 0 := by omega
  clear ha hb
  clear hm h1 h2
  go_enter Try.func6, Try.ntmps6
  go_wp2_with (first | ((with_reducible refine (C.out _ HB.out).mono ?_); rintro e w1 ⟨rfl, hb⟩; have HB := hide hb; clear hb) | ((with_reducible refine (D.out _ HB.out).mono ?_); rintro e w1 ⟨rfl, hb⟩; have HB := hide hb; clear hb) | ((with_reducible refine (T.out _ HB.out).mono ?_); rintro e w1 ⟨rfl, hb⟩; have HB := hide hb; clear hb) | ((with_reducible refine (N.out _ HB.out).mono ?_); rintro e w1 ⟨rfl, hb⟩; have HB := hide hb; clear hb) | ((with_reducible refine (K.out _ HB.out).mono ?_); rintro e w1 ⟨rfl, hb⟩; have HB := hide hb; clear hb))
  go_ret
  exact ⟨rfl, HB.out⟩

set_option maxRecDepth 100000 in
set_option maxHeartbeats 1000000 in
theorem places_s_1 (op : Int) {m : Nat} (hm : op = (m : Int)) (h1 : 10 ≤ m) (h2 : m ≤ 16) {a b : Nat} (ha : a ≤ 4294967295) (hb : b ≤ 4294967295) {x y : Nat} {u v : Bool} (W : World)
    (C : Hide (∀ W1 : World, Below W.heap.size W W1 → Calls Try.prog 15 #[.int .u8 op, .int .i64 32, .int .u64 (a : Int), .int .u64 (b : Int)] W1 fun r W' => r = .returned (.tuple #[.int .u64 (x : Int), .int .i64 2]) ∧ Below W.heap.size W W'))
    (D : Hide (∀ W1 : World, Below W.heap.size W W1 → Calls Try.prog 16 #[.int .u8 op, .int .i64 32, .int .u64 (a : Int)] W1 fun r W' => r = .returned (.tuple #[.int .u64 (y : Int), .int .i64 0]) ∧ Below W.heap.size W W'))
    (T : Hide (∀ W1 : World, Below W.heap.size W W1 → Calls Try.prog 17 #[.int .u8 op, .int .i64 32, .int .u64 (a : Int), .int .u64 (b : Int)] W1 fun r W' => r = .returned (.tuple #[.bool u, .int .i64 2]) ∧ Below W.heap.size W W'))
    (N : Hide (∀ W1 : World, Below W.heap.size W W1 → Calls Try.prog 18 #[.int .i64 32, .int .u64 (a : Int)] W1 fun r W' => r = .returned (.tuple #[.bool v, .int .i64 0]) ∧ Below W.heap.size W W')) :
    Calls Try.prog 6 #[.int .u8 op, .int .i64 32, .int .u64 (a : Int), .int .u64 (b : Int)] W fun e W' => e = .returned (.bool true) ∧ Below W.heap.size W W' := by
  have p1 : decide ((op : Int) ≥ 1) = true := by simp; omega
  have p10 : decide ((op : Int) ≥ 10) = true := by simp; omega
  have p17 : decide ((op : Int) ≥ 17) = false := by simp; omega
  have q9 : decide ((op : Int) ≤ 9) = false := by simp; omega
  have q16 : decide ((op : Int) ≤ 16) = true := by simp; omega
  have q22 : decide ((op : Int) ≤ 22) = true := by simp; omega
  have K := hide (@works_calls W)
  have HB := hide (Below.refl W.heap.size W)
  have z1 : (a : Int) / 4294967296 = 0 := by omega
  have z2 : (b : Int) / 4294967296 = 0 := by omega
  clear ha hb
  clear hm h1 h2
  go_enter Try.func6, Try.ntmps6
  go_wp2_with (first | ((with_reducible refine (C.out _ HB.out).mono ?_); rintro e w1 ⟨rfl, hb⟩; have HB := hide hb; clear hb) | ((with_reducible refine (D.out _ HB.out).mono ?_); rintro e w1 ⟨rfl, hb⟩; have HB := hide hb; clear hb) | ((with_reducible refine (T.out _ HB.out).mono ?_); rintro e w1 ⟨rfl, hb⟩; have HB := hide hb; clear hb) | ((with_reducible refine (N.out _ HB.out).mono ?_); rintro e w1 ⟨rfl, hb⟩; have HB := hide hb; clear hb) | ((with_reducible refine (K.out _ HB.out).mono ?_); rintro e w1 ⟨rfl, hb⟩; have HB := hide hb; clear hb))
  go_ret
  exact ⟨rfl, HB.out⟩

set_option maxRecDepth 100000 in
set_option maxHeartbeats 1000000 in
theorem places_s_t (op : Int) {m : Nat} (hm : op = (m : Int)) (h1 : 17 ≤ m) (h2 : m ≤ 22) {a b : Nat} (ha : a ≤ 4294967295) (hb : b ≤ 4294967295) {x y : Nat} {u v : Bool} (W : World)
    (C : Hide (∀ W1 : World, Below W.heap.size W W1 → Calls Try.prog 15 #[.int .u8 op, .int .i64 32, .int .u64 (a : Int), .int .u64 (b : Int)] W1 fun r W' => r = .returned (.tuple #[.int .u64 (x : Int), .int .i64 2]) ∧ Below W.heap.size W W'))
    (D : Hide (∀ W1 : World, Below W.heap.size W W1 → Calls Try.prog 16 #[.int .u8 op, .int .i64 32, .int .u64 (a : Int)] W1 fun r W' => r = .returned (.tuple #[.int .u64 (y : Int), .int .i64 2]) ∧ Below W.heap.size W W'))
    (T : Hide (∀ W1 : World, Below W.heap.size W W1 → Calls Try.prog 17 #[.int .u8 op, .int .i64 32, .int .u64 (a : Int), .int .u64 (b : Int)] W1 fun r W' => r = .returned (.tuple #[.bool u, .int .i64 0]) ∧ Below W.heap.size W W'))
    (N : Hide (∀ W1 : World, Below W.heap.size W W1 → Calls Try.prog 18 #[.int .i64 32, .int .u64 (a : Int)] W1 fun r W' => r = .returned (.tuple #[.bool v, .int .i64 0]) ∧ Below W.heap.size W W')) :
    Calls Try.prog 6 #[.int .u8 op, .int .i64 32, .int .u64 (a : Int), .int .u64 (b : Int)] W fun e W' => e = .returned (.bool true) ∧ Below W.heap.size W W' := by
  have p1 : decide ((op : Int) ≥ 1) = true := by simp; omega
  have p10 : decide ((op : Int) ≥ 10) = true := by simp; omega
  have p17 : decide ((op : Int) ≥ 17) = true := by simp; omega
  have q9 : decide ((op : Int) ≤ 9) = false := by simp; omega
  have q16 : decide ((op : Int) ≤ 16) = false := by simp; omega
  have q22 : decide ((op : Int) ≤ 22) = true := by simp; omega
  have K := hide (@works_calls W)
  have HB := hide (Below.refl W.heap.size W)
  have z1 : (a : Int) / 4294967296 = 0 := by omega
  have z2 : (b : Int) / 4294967296 = 0 := by omega
  clear ha hb
  clear hm h1 h2
  go_enter Try.func6, Try.ntmps6
  go_wp2_with (first | ((with_reducible refine (C.out _ HB.out).mono ?_); rintro e w1 ⟨rfl, hb⟩; have HB := hide hb; clear hb) | ((with_reducible refine (D.out _ HB.out).mono ?_); rintro e w1 ⟨rfl, hb⟩; have HB := hide hb; clear hb) | ((with_reducible refine (T.out _ HB.out).mono ?_); rintro e w1 ⟨rfl, hb⟩; have HB := hide hb; clear hb) | ((with_reducible refine (N.out _ HB.out).mono ?_); rintro e w1 ⟨rfl, hb⟩; have HB := hide hb; clear hb) | ((with_reducible refine (K.out _ HB.out).mono ?_); rintro e w1 ⟨rfl, hb⟩; have HB := hide hb; clear hb))
  go_ret
  exact ⟨rfl, HB.out⟩

set_option maxRecDepth 100000 in
set_option maxHeartbeats 1000000 in
theorem places_s_9 (op : Int) {m : Nat} (hm : op = (m : Int)) (h1 : 22 < m) {a b : Nat} (ha : a ≤ 4294967295) (hb : b ≤ 4294967295) {x y : Nat} {u v : Bool} (W : World)
    (C : Hide (∀ W1 : World, Below W.heap.size W W1 → Calls Try.prog 15 #[.int .u8 op, .int .i64 32, .int .u64 (a : Int), .int .u64 (b : Int)] W1 fun r W' => r = .returned (.tuple #[.int .u64 (x : Int), .int .i64 2]) ∧ Below W.heap.size W W'))
    (D : Hide (∀ W1 : World, Below W.heap.size W W1 → Calls Try.prog 16 #[.int .u8 op, .int .i64 32, .int .u64 (a : Int)] W1 fun r W' => r = .returned (.tuple #[.int .u64 (y : Int), .int .i64 2]) ∧ Below W.heap.size W W'))
    (T : Hide (∀ W1 : World, Below W.heap.size W W1 → Calls Try.prog 17 #[.int .u8 op, .int .i64 32, .int .u64 (a : Int), .int .u64 (b : Int)] W1 fun r W' => r = .returned (.tuple #[.bool u, .int .i64 2]) ∧ Below W.heap.size W W'))
    (N : Hide (∀ W1 : World, Below W.heap.size W W1 → Calls Try.prog 18 #[.int .i64 32, .int .u64 (a : Int)] W1 fun r W' => r = .returned (.tuple #[.bool v, .int .i64 0]) ∧ Below W.heap.size W W')) :
    Calls Try.prog 6 #[.int .u8 op, .int .i64 32, .int .u64 (a : Int), .int .u64 (b : Int)] W fun e W' => e = .returned (.bool true) ∧ Below W.heap.size W W' := by
  have p1 : decide ((op : Int) ≥ 1) = true := by simp; omega
  have p10 : decide ((op : Int) ≥ 10) = true := by simp; omega
  have p17 : decide ((op : Int) ≥ 17) = true := by simp; omega
  have q9 : decide ((op : Int) ≤ 9) = false := by simp; omega
  have q16 : decide ((op : Int) ≤ 16) = false := by simp; omega
  have q22 : decide ((op : Int) ≤ 22) = false := by simp; omega
  have K := hide (@works_calls W)
  have HB := hide (Below.refl W.heap.size W)
  have z1 : (a : Int) / 4294967296 = 0 := by omega
  have z2 : (b : Int) / 4294967296 = 0 := by omega
  clear ha hb
  clear hm h1
  go_enter Try.func6, Try.ntmps6
  go_wp2_with (first | ((with_reducible refine (C.out _ HB.out).mono ?_); rintro e w1 ⟨rfl, hb⟩; have HB := hide hb; clear hb) | ((with_reducible refine (D.out _ HB.out).mono ?_); rintro e w1 ⟨rfl, hb⟩; have HB := hide hb; clear hb) | ((with_reducible refine (T.out _ HB.out).mono ?_); rintro e w1 ⟨rfl, hb⟩; have HB := hide hb; clear hb) | ((with_reducible refine (N.out _ HB.out).mono ?_); rintro e w1 ⟨rfl, hb⟩; have HB := hide hb; clear hb) | ((with_reducible refine (K.out _ HB.out).mono ?_); rintro e w1 ⟨rfl, hb⟩; have HB := hide hb; clear hb))
  go_ret
  exact ⟨rfl, HB.out⟩

set_option maxRecDepth 100000 in
set_option maxHeartbeats 1000000 in
theorem places_sa_0 (op : Int) {m : Nat} (hm : op = (m : Int)) (h1 : m = 0) {a b : Nat} (ha : a ≤ 4294967295) (hb : ¬ b ≤ 4294967295) {x y : Nat} {u v : Bool} (W : World)
    (C : Hide (∀ W1 : World, Below W.heap.size W W1 → Calls Try.prog 15 #[.int .u8 op, .int .i64 32, .int .u64 (a : Int), .int .u64 (b : Int)] W1 fun r W' => r = .returned (.tuple #[.int .u64 (x : Int), .int .i64 2]) ∧ Below W.heap.size W W'))
    (D : Hide (∀ W1 : World, Below W.heap.size W W1 → Calls Try.prog 16 #[.int .u8 op, .int .i64 32, .int .u64 (a : Int)] W1 fun r W' => r = .returned (.tuple #[.int .u64 (y : Int), .int .i64 2]) ∧ Below W.heap.size W W'))
    (T : Hide (∀ W1 : World, Below W.heap.size W W1 → Calls Try.prog 17 #[.int .u8 op, .int .i64 32, .int .u64 (a : Int), .int .u64 (b : Int)] W1 fun r W' => r = .returned (.tuple #[.bool u, .int .i64 2]) ∧ Below W.heap.size W W'))
    (N : Hide (∀ W1 : World, Below W.heap.size W W1 → Calls Try.prog 18 #[.int .i64 32, .int .u64 (a : Int)] W1 fun r W' => r = .returned (.tuple #[.bool v, .int .i64 0]) ∧ Below W.heap.size W W')) :
    Calls Try.prog 6 #[.int .u8 op, .int .i64 32, .int .u64 (a : Int), .int .u64 (b : Int)] W fun e W' => e = .returned (.bool true) ∧ Below W.heap.size W W' := by
  have p1 : decide ((op : Int) ≥ 1) = false := by simp; omega
  have p10 : decide ((op : Int) ≥ 10) = false := by simp; omega
  have p17 : decide ((op : Int) ≥ 17) = false := by simp; omega
  have q9 : decide ((op : Int) ≤ 9) = true := by simp; omega
  have q16 : decide ((op : Int) ≤ 16) = true := by simp; omega
  have q22 : decide ((op : Int) ≤ 22) = true := by simp; omega
  have K := hide (@works_calls W)
  have HB := hide (Below.refl W.heap.size W)
  have z1 : (a : Int) / 4294967296 = 0 := by omega
  have z2 : ((b : Int) / 4294967296 == 0) = false := by simp; omega
  clear ha hb
  clear hm h1
  go_enter Try.func6, Try.ntmps6
  go_wp2_with (first | ((with_reducible refine (C.out _ HB.out).mono ?_); rintro e w1 ⟨rfl, hb⟩; have HB := hide hb; clear hb) | ((with_reducible refine (D.out _ HB.out).mono ?_); rintro e w1 ⟨rfl, hb⟩; have HB := hide hb; clear hb) | ((with_reducible refine (T.out _ HB.out).mono ?_); rintro e w1 ⟨rfl, hb⟩; have HB := hide hb; clear hb) | ((with_reducible refine (N.out _ HB.out).mono ?_); rintro e w1 ⟨rfl, hb⟩; have HB := hide hb; clear hb) | ((with_reducible refine (K.out _ HB.out).mono ?_); rintro e w1 ⟨rfl, hb⟩; have HB := hide hb; clear hb))
  go_ret
  exact ⟨rfl, HB.out⟩

set_option maxRecDepth 100000 in
set_option maxHeartbeats 1000000 in
theorem places_sa_2 (op : Int) {m : Nat} (hm : op = (m : Int)) (h1 : 1 ≤ m) (h2 : m ≤ 9) {a b : Nat} (ha : a ≤ 4294967295) (hb : ¬ b ≤ 4294967295) {x y : Nat} {u v : Bool} (W : World)
    (C : Hide (∀ W1 : World, Below W.heap.size W W1 → Calls Try.prog 15 #[.int .u8 op, .int .i64 32, .int .u64 (a : Int), .int .u64 (b : Int)] W1 fun r W' => r = .returned (.tuple #[.int .u64 (x : Int), .int .i64 2]) ∧ Below W.heap.size W W'))
    (D : Hide (∀ W1 : World, Below W.heap.size W W1 → Calls Try.prog 16 #[.int .u8 op, .int .i64 32, .int .u64 (a : Int)] W1 fun r W' => r = .returned (.tuple #[.int .u64 (y : Int), .int .i64 2]) ∧ Below W.heap.size W W'))
    (T : Hide (∀ W1 : World, Below W.heap.size W W1 → Calls Try.prog 17 #[.int .u8 op, .int .i64 32, .int .u64 (a : Int), .int .u64 (b : Int)] W1 fun r W' => r = .returned (.tuple #[.bool u, .int .i64 2]) ∧ Below W.heap.size W W'))
    (N : Hide (∀ W1 : World, Below W.heap.size W W1 → Calls Try.prog 18 #[.int .i64 32, .int .u64 (a : Int)] W1 fun r W' => r = .returned (.tuple #[.bool v, .int .i64 0]) ∧ Below W.heap.size W W')) :
    Calls Try.prog 6 #[.int .u8 op, .int .i64 32, .int .u64 (a : Int), .int .u64 (b : Int)] W fun e W' => e = .returned (.bool true) ∧ Below W.heap.size W W' := by
  have p1 : decide ((op : Int) ≥ 1) = true := by simp; omega
  have p10 : decide ((op : Int) ≥ 10) = false := by simp; omega
  have p17 : decide ((op : Int) ≥ 17) = false := by simp; omega
  have q9 : decide ((op : Int) ≤ 9) = true := by simp; omega
  have q16 : decide ((op : Int) ≤ 16) = true := by simp; omega
  have q22 : decide ((op : Int) ≤ 22) = true := by simp; omega
  have K := hide (@works_calls W)
  have HB := hide (Below.refl W.heap.size W)
  have z1 : (a : Int) / 4294967296 = 0 := by omega
  have z2 : ((b : Int) / 4294967296 == 0) = false := by simp; omega
  clear ha hb
  clear hm h1 h2
  go_enter Try.func6, Try.ntmps6
  go_wp2_with (first | ((with_reducible refine (C.out _ HB.out).mono ?_); rintro e w1 ⟨rfl, hb⟩; have HB := hide hb; clear hb) | ((with_reducible refine (D.out _ HB.out).mono ?_); rintro e w1 ⟨rfl, hb⟩; have HB := hide hb; clear hb) | ((with_reducible refine (T.out _ HB.out).mono ?_); rintro e w1 ⟨rfl, hb⟩; have HB := hide hb; clear hb) | ((with_reducible refine (N.out _ HB.out).mono ?_); rintro e w1 ⟨rfl, hb⟩; have HB := hide hb; clear hb) | ((with_reducible refine (K.out _ HB.out).mono ?_); rintro e w1 ⟨rfl, hb⟩; have HB := hide hb; clear hb))
  go_ret
  exact ⟨rfl, HB.out⟩

set_option maxRecDepth 100000 in
set_option maxHeartbeats 1000000 in
theorem places_sa_1 (op : Int) {m : Nat} (hm : op = (m : Int)) (h1 : 10 ≤ m) (h2 : m ≤ 16) {a b : Nat} (ha : a ≤ 4294967295) (hb : ¬ b ≤ 4294967295) {x y : Nat} {u v : Bool} (W : World)
    (C : Hide (∀ W1 : World, Below W.heap.size W W1 → Calls Try.prog 15 #[.int .u8 op, .int .i64 32, .int .u64 (a : Int), .int .u64 (b : Int)] W1 fun r W' => r = .returned (.tuple #[.int .u64 (x : Int), .int .i64 2]) ∧ Below W.heap.size W W'))
    (D : Hide (∀ W1 : World, Below W.heap.size W W1 → Calls Try.prog 16 #[.int .u8 op, .int .i64 32, .int .u64 (a : Int)] W1 fun r W' => r = .returned (.tuple #[.int .u64 (y : Int), .int .i64 0]) ∧ Below W.heap.size W W'))
    (T : Hide (∀ W1 : World, Below W.heap.size W W1 → Calls Try.prog 17 #[.int .u8 op, .int .i64 32, .int .u64 (a : Int), .int .u64 (b : Int)] W1 fun r W' => r = .returned (.tuple #[.bool u, .int .i64 2]) ∧ Below W.heap.size W W'))
    (N : Hide (∀ W1 : World, Below W.heap.size W W1 → Calls Try.prog 18 #[.int .i64 32, .int .u64 (a : Int)] W1 fun r W' => r = .returned (.tuple #[.bool v, .int .i64 0]) ∧ Below W.heap.size W W')) :
    Calls Try.prog 6 #[.int .u8 op, .int .i64 32, .int .u64 (a : Int), .int .u64 (b : Int)] W fun e W' => e = .returned (.bool true) ∧ Below W.heap.size W W' := by
  have p1 : decide ((op : Int) ≥ 1) = true := by simp; omega
  have p10 : decide ((op : Int) ≥ 10) = true := by simp; omega
  have p17 : decide ((op : Int) ≥ 17) = false := by simp; omega
  have q9 : decide ((op : Int) ≤ 9) = false := by simp; omega
  have q16 : decide ((op : Int) ≤ 16) = true := by simp; omega
  have q22 : decide ((op : Int) ≤ 22) = true := by simp; omega
  have K := hide (@works_calls W)
  have HB := hide (Below.refl W.heap.size W)
  have z1 : (a : Int) / 4294967296 = 0 := by omega
  have z2 : ((b : Int) / 4294967296 == 0) = false := by simp; omega
  clear ha hb
  clear hm h1 h2
  go_enter Try.func6, Try.ntmps6
  go_wp2_with (first | ((with_reducible refine (C.out _ HB.out).mono ?_); rintro e w1 ⟨rfl, hb⟩; have HB := hide hb; clear hb) | ((with_reducible refine (D.out _ HB.out).mono ?_); rintro e w1 ⟨rfl, hb⟩; have HB := hide hb; clear hb) | ((with_reducible refine (T.out _ HB.out).mono ?_); rintro e w1 ⟨rfl, hb⟩; have HB := hide hb; clear hb) | ((with_reducible refine (N.out _ HB.out).mono ?_); rintro e w1 ⟨rfl, hb⟩; have HB := hide hb; clear hb) | ((with_reducible refine (K.out _ HB.out).mono ?_); rintro e w1 ⟨rfl, hb⟩; have HB := hide hb; clear hb))
  go_ret
  exact ⟨rfl, HB.out⟩

set_option maxRecDepth 100000 in
set_option maxHeartbeats 1000000 in
theorem places_sa_t (op : Int) {m : Nat} (hm : op = (m : Int)) (h1 : 17 ≤ m) (h2 : m ≤ 22) {a b : Nat} (ha : a ≤ 4294967295) (hb : ¬ b ≤ 4294967295) {x y : Nat} {u v : Bool} (W : World)
    (C : Hide (∀ W1 : World, Below W.heap.size W W1 → Calls Try.prog 15 #[.int .u8 op, .int .i64 32, .int .u64 (a : Int), .int .u64 (b : Int)] W1 fun r W' => r = .returned (.tuple #[.int .u64 (x : Int), .int .i64 2]) ∧ Below W.heap.size W W'))
    (D : Hide (∀ W1 : World, Below W.heap.size W W1 → Calls Try.prog 16 #[.int .u8 op, .int .i64 32, .int .u64 (a : Int)] W1 fun r W' => r = .returned (.tuple #[.int .u64 (y : Int), .int .i64 2]) ∧ Below W.heap.size W W'))
    (T : Hide (∀ W1 : World, Below W.heap.size W W1 → Calls Try.prog 17 #[.int .u8 op, .int .i64 32, .int .u64 (a : Int), .int .u64 (b : Int)] W1 fun r W' => r = .returned (.tuple #[.bool u, .int .i64 2]) ∧ Below W.heap.size W W'))
    (N : Hide (∀ W1 : World, Below W.heap.size W W1 → Calls Try.prog 18 #[.int .i64 32, .int .u64 (a : Int)] W1 fun r W' => r = .returned (.tuple #[.bool v, .int .i64 0]) ∧ Below W.heap.size W W')) :
    Calls Try.prog 6 #[.int .u8 op, .int .i64 32, .int .u64 (a : Int), .int .u64 (b : Int)] W fun e W' => e = .returned (.bool true) ∧ Below W.heap.size W W' := by
  have p1 : decide ((op : Int) ≥ 1) = true := by simp; omega
  have p10 : decide ((op : Int) ≥ 10) = true := by simp; omega
  have p17 : decide ((op : Int) ≥ 17) = true := by simp; omega
  have q9 : decide ((op : Int) ≤ 9) = false := by simp; omega
  have q16 : decide ((op : Int) ≤ 16) = false := by simp; omega
  have q22 : decide ((op : Int) ≤ 22) = true := by simp; omega
  have K := hide (@works_calls W)
  have HB := hide (Below.refl W.heap.size W)
  have z1 : (a : Int) / 4294967296 = 0 := by omega
  have z2 : ((b : Int) / 4294967296 == 0) = false := by simp; omega
  clear ha hb
  clear hm h1 h2
  go_enter Try.func6, Try.ntmps6
  go_wp2_with (first | ((with_reducible refine (C.out _ HB.out).mono ?_); rintro e w1 ⟨rfl, hb⟩; have HB := hide hb; clear hb) | ((with_reducible refine (D.out _ HB.out).mono ?_); rintro e w1 ⟨rfl, hb⟩; have HB := hide hb; clear hb) | ((with_reducible refine (T.out _ HB.out).mono ?_); rintro e w1 ⟨rfl, hb⟩; have HB := hide hb; clear hb) | ((with_reducible refine (N.out _ HB.out).mono ?_); rintro e w1 ⟨rfl, hb⟩; have HB := hide hb; clear hb) | ((with_reducible refine (K.out _ HB.out).mono ?_); rintro e w1 ⟨rfl, hb⟩; have HB := hide hb; clear hb))
  go_ret
  exact ⟨rfl, HB.out⟩

set_option maxRecDepth 100000 in
set_option maxHeartbeats 1000000 in
theorem places_sa_9 (op : Int) {m : Nat} (hm : op = (m : Int)) (h1 : 22 < m) {a b : Nat} (ha : a ≤ 4294967295) (hb : ¬ b ≤ 4294967295) {x y : Nat} {u v : Bool} (W : World)
    (C : Hide (∀ W1 : World, Below W.heap.size W W1 → Calls Try.prog 15 #[.int .u8 op, .int .i64 32, .int .u64 (a : Int), .int .u64 (b : Int)] W1 fun r W' => r = .returned (.tuple #[.int .u64 (x : Int), .int .i64 2]) ∧ Below W.heap.size W W'))
    (D : Hide (∀ W1 : World, Below W.heap.size W W1 → Calls Try.prog 16 #[.int .u8 op, .int .i64 32, .int .u64 (a : Int)] W1 fun r W' => r = .returned (.tuple #[.int .u64 (y : Int), .int .i64 2]) ∧ Below W.heap.size W W'))
    (T : Hide (∀ W1 : World, Below W.heap.size W W1 → Calls Try.prog 17 #[.int .u8 op, .int .i64 32, .int .u64 (a : Int), .int .u64 (b : Int)] W1 fun r W' => r = .returned (.tuple #[.bool u, .int .i64 2]) ∧ Below W.heap.size W W'))
    (N : Hide (∀ W1 : World, Below W.heap.size W W1 → Calls Try.prog 18 #[.int .i64 32, .int .u64 (a : Int)] W1 fun r W' => r = .returned (.tuple #[.bool v, .int .i64 0]) ∧ Below W.heap.size W W')) :
    Calls Try.prog 6 #[.int .u8 op, .int .i64 32, .int .u64 (a : Int), .int .u64 (b : Int)] W fun e W' => e = .returned (.bool true) ∧ Below W.heap.size W W' := by
  have p1 : decide ((op : Int) ≥ 1) = true := by simp; omega
  have p10 : decide ((op : Int) ≥ 10) = true := by simp; omega
  have p17 : decide ((op : Int) ≥ 17) = true := by simp; omega
  have q9 : decide ((op : Int) ≤ 9) = false := by simp; omega
  have q16 : decide ((op : Int) ≤ 16) = false := by simp; omega
  have q22 : decide ((op : Int) ≤ 22) = false := by simp; omega
  have K := hide (@works_calls W)
  have HB := hide (Below.refl W.heap.size W)
  have z1 : (a : Int) / 4294967296 = 0 := by omega
  have z2 : ((b : Int) / 4294967296 == 0) = false := by simp; omega
  clear ha hb
  clear hm h1
  go_enter Try.func6, Try.ntmps6
  go_wp2_with (first | ((with_reducible refine (C.out _ HB.out).mono ?_); rintro e w1 ⟨rfl, hb⟩; have HB := hide hb; clear hb) | ((with_reducible refine (D.out _ HB.out).mono ?_); rintro e w1 ⟨rfl, hb⟩; have HB := hide hb; clear hb) | ((with_reducible refine (T.out _ HB.out).mono ?_); rintro e w1 ⟨rfl, hb⟩; have HB := hide hb; clear hb) | ((with_reducible refine (N.out _ HB.out).mono ?_); rintro e w1 ⟨rfl, hb⟩; have HB := hide hb; clear hb) | ((with_reducible refine (K.out _ HB.out).mono ?_); rintro e w1 ⟨rfl, hb⟩; have HB := hide hb; clear hb))
  go_ret
  exact ⟨rfl, HB.out⟩

set_option maxRecDepth 100000 in
set_option maxHeartbeats 1000000 in
theorem places_sb_0 (op : Int) {m : Nat} (hm : op = (m : Int)) (h1 : m = 0) {a b : Nat} (ha : ¬ a ≤ 4294967295) {x y : Nat} {u v : Bool} (W : World)
    (C : Hide (∀ W1 : World, Below W.heap.size W W1 → Calls Try.prog 15 #[.int .u8 op, .int .i64 32, .int .u64 (a : Int), .int .u64 (b : Int)] W1 fun r W' => r = .returned (.tuple #[.int .u64 (x : Int), .int .i64 2]) ∧ Below W.heap.size W W'))
    (D : Hide (∀ W1 : World, Below W.heap.size W W1 → Calls Try.prog 16 #[.int .u8 op, .int .i64 32, .int .u64 (a : Int)] W1 fun r W' => r = .returned (.tuple #[.int .u64 (y : Int), .int .i64 2]) ∧ Below W.heap.size W W'))
    (T : Hide (∀ W1 : World, Below W.heap.size W W1 → Calls Try.prog 17 #[.int .u8 op, .int .i64 32, .int .u64 (a : Int), .int .u64 (b : Int)] W1 fun r W' => r = .returned (.tuple #[.bool u, .int .i64 2]) ∧ Below W.heap.size W W'))
    (N : Hide (∀ W1 : World, Below W.heap.size W W1 → Calls Try.prog 18 #[.int .i64 32, .int .u64 (a : Int)] W1 fun r W' => r = .returned (.tuple #[.bool v, .int .i64 2]) ∧ Below W.heap.size W W')) :
    Calls Try.prog 6 #[.int .u8 op, .int .i64 32, .int .u64 (a : Int), .int .u64 (b : Int)] W fun e W' => e = .returned (.bool true) ∧ Below W.heap.size W W' := by
  have p1 : decide ((op : Int) ≥ 1) = false := by simp; omega
  have p10 : decide ((op : Int) ≥ 10) = false := by simp; omega
  have p17 : decide ((op : Int) ≥ 17) = false := by simp; omega
  have q9 : decide ((op : Int) ≤ 9) = true := by simp; omega
  have q16 : decide ((op : Int) ≤ 16) = true := by simp; omega
  have q22 : decide ((op : Int) ≤ 22) = true := by simp; omega
  have K := hide (@works_calls W)
  have HB := hide (Below.refl W.heap.size W)
  have z1 : ((a : Int) / 4294967296 == 0) = false := by simp; omega
  clear ha
  clear hm h1
  go_enter Try.func6, Try.ntmps6
  go_wp2_with (first | ((with_reducible refine (C.out _ HB.out).mono ?_); rintro e w1 ⟨rfl, hb⟩; have HB := hide hb; clear hb) | ((with_reducible refine (D.out _ HB.out).mono ?_); rintro e w1 ⟨rfl, hb⟩; have HB := hide hb; clear hb) | ((with_reducible refine (T.out _ HB.out).mono ?_); rintro e w1 ⟨rfl, hb⟩; have HB := hide hb; clear hb) | ((with_reducible refine (N.out _ HB.out).mono ?_); rintro e w1 ⟨rfl, hb⟩; have HB := hide hb; clear hb) | ((with_reducible refine (K.out _ HB.out).mono ?_); rintro e w1 ⟨rfl, hb⟩; have HB := hide hb; clear hb))
  go_ret
  exact ⟨rfl, HB.out⟩

set_option maxRecDepth 100000 in
set_option maxHeartbeats 1000000 in
theorem places_sb_2 (op : Int) {m : Nat} (hm : op = (m : Int)) (h1 : 1 ≤ m) (h2 : m ≤ 9) {a b : Nat} (ha : ¬ a ≤ 4294967295) {x y : Nat} {u v : Bool} (W : World)
    (C : Hide (∀ W1 : World, Below W.heap.size W W1 → Calls Try.prog 15 #[.int .u8 op, .int .i64 32, .int .u64 (a : Int), .int .u64 (b : Int)] W1 fun r W' => r = .returned (.tuple #[.int .u64 (x : Int), .int .i64 2]) ∧ Below W.heap.size W W'))
    (D : Hide (∀ W1 : World, Below W.heap.size W W1 → Calls Try.prog 16 #[.int .u8 op, .int .i64 32, .int .u64 (a : Int)] W1 fun r W' => r = .returned (.tuple #[.int .u64 (y : Int), .int .i64 2]) ∧ Below W.heap.size W W'))
    (T : Hide (∀ W1 : World, Below W.heap.size W W1 → Calls Try.prog 17 #[.int .u8 op, .int .i64 32, .int .u64 (a : Int), .int .u64 (b : Int)] W1 fun r W' => r = .returned (.tuple #[.bool u, .int .i64 2]) ∧ Below W.heap.size W W'))
    (N : Hide (∀ W1 : World, Below W.heap.size W W1 → Calls Try.prog 18 #[.int .i64 32, .int .u64 (a : Int)] W1 fun r W' => r = .returned (.tuple #[.bool v, .int .i64 2]) ∧ Below W.heap.size W W')) :
    Calls Try.prog 6 #[.int .u8 op, .int .i64 32, .int .u64 (a : Int), .int .u64 (b : Int)] W fun e W' => e = .returned (.bool true) ∧ Below W.heap.size W W' := by
  have p1 : decide ((op : Int) ≥ 1) = true := by simp; omega
  have p10 : decide ((op : Int) ≥ 10) = false := by simp; omega
  have p17 : decide ((op : Int) ≥ 17) = false := by simp; omega
  have q9 : decide ((op : Int) ≤ 9) = true := by simp; omega
  have q16 : decide ((op : Int) ≤ 16) = true := by simp; omega
  have q22 : decide ((op : Int) ≤ 22) = true := by simp; omega
  have K := hide (@works_calls W)
  have HB := hide (Below.refl W.heap.size W)
  have z1 : ((a : Int) / 4294967296 == 0) = false := by simp; omega
  clear ha
  clear hm h1 h2
  go_enter Try.func6, Try.ntmps6
  go_wp2_with (first | ((with_reducible refine (C.out _ HB.out).mono ?_); rintro e w1 ⟨rfl, hb⟩; have HB := hide hb; clear hb) | ((with_reducible refine (D.out _ HB.out).mono ?_); rintro e w1 ⟨rfl, hb⟩; have HB := hide hb; clear hb) | ((with_reducible refine (T.out _ HB.out).mono ?_); rintro e w1 ⟨rfl, hb⟩; have HB := hide hb; clear hb) | ((with_reducible refine (N.out _ HB.out).mono ?_); rintro e w1 ⟨rfl, hb⟩; have HB := hide hb; clear hb) | ((with_reducible refine (K.out _ HB.out).mono ?_); rintro e w1 ⟨rfl, hb⟩; have HB := hide hb; clear hb))
  go_ret
  exact ⟨rfl, HB.out⟩

set_option maxRecDepth 100000 in
set_option maxHeartbeats 1000000 in
theorem places_sb_1 (op : Int) {m : Nat} (hm : op = (m : Int)) (h1 : 10 ≤ m) (h2 : m ≤ 16) {a b : Nat} (ha : ¬ a ≤ 4294967295) {x y : Nat} {u v : Bool} (W : World)
    (C : Hide (∀ W1 : World, Below W.heap.size W W1 → Calls Try.prog 15 #[.int .u8 op, .int .i64 32, .int .u64 (a : Int), .int .u64 (b : Int)] W1 fun r W' => r = .returned (.tuple #[.int .u64 (x : Int), .int .i64 2]) ∧ Below W.heap.size W W'))
    (D : Hide (∀ W1 : World, Below W.heap.size W W1 → Calls Try.prog 16 #[.int .u8 op, .int .i64 32, .int .u64 (a : Int)] W1 fun r W' => r = .returned (.tuple #[.int .u64 (y : Int), .int .i64 2]) ∧ Below W.heap.size W W'))
    (T : Hide (∀ W1 : World, Below W.heap.size W W1 → Calls Try.prog 17 #[.int .u8 op, .int .i64 32, .int .u64 (a : Int), .int .u64 (b : Int)] W1 fun r W' => r = .returned (.tuple #[.bool u, .int .i64 2]) ∧ Below W.heap.size W W'))
    (N : Hide (∀ W1 : World, Below W.heap.size W W1 → Calls Try.prog 18 #[.int .i64 32, .int .u64 (a : Int)] W1 fun r W' => r = .returned (.tuple #[.bool v, .int .i64 2]) ∧ Below W.heap.size W W')) :
    Calls Try.prog 6 #[.int .u8 op, .int .i64 32, .int .u64 (a : Int), .int .u64 (b : Int)] W fun e W' => e = .returned (.bool true) ∧ Below W.heap.size W W' := by
  have p1 : decide ((op : Int) ≥ 1) = true := by simp; omega
  have p10 : decide ((op : Int) ≥ 10) = true := by simp; omega
  have p17 : decide ((op : Int) ≥ 17) = false := by simp; omega
  have q9 : decide ((op : Int) ≤ 9) = false := by simp; omega
  have q16 : decide ((op : Int) ≤ 16) = true := by simp; omega
  have q22 : decide ((op : Int) ≤ 22) = true := by simp; omega
  have K := hide (@works_calls W)
  have HB := hide (Below.refl W.heap.size W)
  have z1 : ((a : Int) / 4294967296 == 0) = false := by simp; omega
  clear ha
  clear hm h1 h2
  go_enter Try.func6, Try.ntmps6
  go_wp2_with (first | ((with_reducible refine (C.out _ HB.out).mono ?_); rintro e w1 ⟨rfl, hb⟩; have HB := hide hb; clear hb) | ((with_reducible refine (D.out _ HB.out).mono ?_); rintro e w1 ⟨rfl, hb⟩; have HB := hide hb; clear hb) | ((with_reducible refine (T.out _ HB.out).mono ?_); rintro e w1 ⟨rfl, hb⟩; have HB := hide hb; clear hb) | ((with_reducible refine (N.out _ HB.out).mono ?_); rintro e w1 ⟨rfl, hb⟩; have HB := hide hb; clear hb) | ((with_reducible refine (K.out _ HB.out).mono ?_); rintro e w1 ⟨rfl, hb⟩; have HB := hide hb; clear hb))
  go_ret
  exact ⟨rfl, HB.out⟩

set_option maxRecDepth 100000 in
set_option maxHeartbeats 1000000 in
theorem places_sb_t (op : Int) {m : Nat} (hm : op = (m : Int)) (h1 : 17 ≤ m) (h2 : m ≤ 22) {a b : Nat} (ha : ¬ a ≤ 4294967295) {x y : Nat} {u v : Bool} (W : World)
    (C : Hide (∀ W1 : World, Below W.heap.size W W1 → Calls Try.prog 15 #[.int .u8 op, .int .i64 32, .int .u64 (a : Int), .int .u64 (b : Int)] W1 fun r W' => r = .returned (.tuple #[.int .u64 (x : Int), .int .i64 2]) ∧ Below W.heap.size W W'))
    (D : Hide (∀ W1 : World, Below W.heap.size W W1 → Calls Try.prog 16 #[.int .u8 op, .int .i64 32, .int .u64 (a : Int)] W1 fun r W' => r = .returned (.tuple #[.int .u64 (y : Int), .int .i64 2]) ∧ Below W.heap.size W W'))
    (T : Hide (∀ W1 : World, Below W.heap.size W W1 → Calls Try.prog 17 #[.int .u8 op, .int .i64 32, .int .u64 (a : Int), .int .u64 (b : Int)] W1 fun r W' => r = .returned (.tuple #[.bool u, .int .i64 2]) ∧ Below W.heap.size W W'))
    (N : Hide (∀ W1 : World, Below W.heap.size W W1 → Calls Try.prog 18 #[.int .i64 32, .int .u64 (a : Int)] W1 fun r W' => r = .returned (.tuple #[.bool v, .int .i64 2]) ∧ Below W.heap.size W W')) :
    Calls Try.prog 6 #[.int .u8 op, .int .i64 32, .int .u64 (a : Int), .int .u64 (b : Int)] W fun e W' => e = .returned (.bool true) ∧ Below W.heap.size W W' := by
  have p1 : decide ((op : Int) ≥ 1) = true := by simp; omega
  have p10 : decide ((op : Int) ≥ 10) = true := by simp; omega
  have p17 : decide ((op : Int) ≥ 17) = true := by simp; omega
  have q9 : decide ((op : Int) ≤ 9) = false := by simp; omega
  have q16 : decide ((op : Int) ≤ 16) = false := by simp; omega
  have q22 : decide ((op : Int) ≤ 22) = true := by simp; omega
  have K := hide (@works_calls W)
  have HB := hide (Below.refl W.heap.size W)
  have z1 : ((a : Int) / 4294967296 == 0) = false := by simp; omega
  clear ha
  clear hm h1 h2
  go_enter Try.func6, Try.ntmps6
  go_wp2_with (first | ((with_reducible refine (C.out _ HB.out).mono ?_); rintro e w1 ⟨rfl, hb⟩; have HB := hide hb; clear hb) | ((with_reducible refine (D.out _ HB.out).mono ?_); rintro e w1 ⟨rfl, hb⟩; have HB := hide hb; clear hb) | ((with_reducible refine (T.out _ HB.out).mono ?_); rintro e w1 ⟨rfl, hb⟩; have HB := hide hb; clear hb) | ((with_reducible refine (N.out _ HB.out).mono ?_); rintro e w1 ⟨rfl, hb⟩; have HB := hide hb; clear hb) | ((with_reducible refine (K.out _ HB.out).mono ?_); rintro e w1 ⟨rfl, hb⟩; have HB := hide hb; clear hb))
  go_ret
  exact ⟨rfl, HB.out⟩

set_option maxRecDepth 100000 in
set_option maxHeartbeats 1000000 in
theorem places_sb_9 (op : Int) {m : Nat} (hm : op = (m : Int)) (h1 : 22 < m) {a b : Nat} (ha : ¬ a ≤ 4294967295) {x y : Nat} {u v : Bool} (W : World)
    (C : Hide (∀ W1 : World, Below W.heap.size W W1 → Calls Try.prog 15 #[.int .u8 op, .int .i64 32, .int .u64 (a : Int), .int .u64 (b : Int)] W1 fun r W' => r = .returned (.tuple #[.int .u64 (x : Int), .int .i64 2]) ∧ Below W.heap.size W W'))
    (D : Hide (∀ W1 : World, Below W.heap.size W W1 → Calls Try.prog 16 #[.int .u8 op, .int .i64 32, .int .u64 (a : Int)] W1 fun r W' => r = .returned (.tuple #[.int .u64 (y : Int), .int .i64 2]) ∧ Below W.heap.size W W'))
    (T : Hide (∀ W1 : World, Below W.heap.size W W1 → Calls Try.prog 17 #[.int .u8 op, .int .i64 32, .int .u64 (a : Int), .int .u64 (b : Int)] W1 fun r W' => r = .returned (.tuple #[.bool u, .int .i64 2]) ∧ Below W.heap.size W W'))
    (N : Hide (∀ W1 : World, Below W.heap.size W W1 → Calls Try.prog 18 #[.int .i64 32, .int .u64 (a : Int)] W1 fun r W' => r = .returned (.tuple #[.bool v, .int .i64 2]) ∧ Below W.heap.size W W')) :
    Calls Try.prog 6 #[.int .u8 op, .int .i64 32, .int .u64 (a : Int), .int .u64 (b : Int)] W fun e W' => e = .returned (.bool true) ∧ Below W.heap.size W W' := by
  have p1 : decide ((op : Int) ≥ 1) = true := by simp; omega
  have p10 : decide ((op : Int) ≥ 10) = true := by simp; omega
  have p17 : decide ((op : Int) ≥ 17) = true := by simp; omega
  have q9 : decide ((op : Int) ≤ 9) = false := by simp; omega
  have q16 : decide ((op : Int) ≤ 16) = false := by simp; omega
  have q22 : decide ((op : Int) ≤ 22) = false := by simp; omega
  have K := hide (@works_calls W)
  have HB := hide (Below.refl W.heap.size W)
  have z1 : ((a : Int) / 4294967296 == 0) = false := by simp; omega
  clear ha
  clear hm h1
  go_enter Try.func6, Try.ntmps6
  go_wp2_with (first | ((with_reducible refine (C.out _ HB.out).mono ?_); rintro e w1 ⟨rfl, hb⟩; have HB := hide hb; clear hb) | ((with_reducible refine (D.out _ HB.out).mono ?_); rintro e w1 ⟨rfl, hb⟩; have HB := hide hb; clear hb) | ((with_reducible refine (T.out _ HB.out).mono ?_); rintro e w1 ⟨rfl, hb⟩; have HB := hide hb; clear hb) | ((with_reducible refine (N.out _ HB.out).mono ?_); rintro e w1 ⟨rfl, hb⟩; have HB := hide hb; clear hb) | ((with_reducible refine (K.out _ HB.out).mono ?_); rintro e w1 ⟨rfl, hb⟩; have HB := hide hb; clear hb))
  go_ret
  exact ⟨rfl, HB.out⟩

set_option maxRecDepth 100000 in
set_option maxHeartbeats 1000000 in
theorem places_n_0 (op : Int) {m : Nat} (hm : op = (m : Int)) (h1 : m = 0) {w : Int} {a b : Nat} (hw1 : w ≠ 32) (hw2 : w ≠ 64) {x y : Nat} {u v : Bool} (W : World)
    (C : Hide (∀ W1 : World, Below W.heap.size W W1 → Calls Try.prog 15 #[.int .u8 op, .int .i64 w, .int .u64 (a : Int), .int .u64 (b : Int)] W1 fun r W' => r = .returned (.tuple #[.int .u64 (x : Int), .int .i64 2]) ∧ Below W.heap.size W W'))
    (D : Hide (∀ W1 : World, Below W.heap.size W W1 → Calls Try.prog 16 #[.int .u8 op, .int .i64 w, .int .u64 (a : Int)] W1 fun r W' => r = .returned (.tuple #[.int .u64 (y : Int), .int .i64 2]) ∧ Below W.heap.size W W'))
    (T : Hide (∀ W1 : World, Below W.heap.size W W1 → Calls Try.prog 17 #[.int .u8 op, .int .i64 w, .int .u64 (a : Int), .int .u64 (b : Int)] W1 fun r W' => r = .returned (.tuple #[.bool u, .int .i64 2]) ∧ Below W.heap.size W W'))
    (N : Hide (∀ W1 : World, Below W.heap.size W W1 → Calls Try.prog 18 #[.int .i64 w, .int .u64 (a : Int)] W1 fun r W' => r = .returned (.tuple #[.bool v, .int .i64 2]) ∧ Below W.heap.size W W')) :
    Calls Try.prog 6 #[.int .u8 op, .int .i64 w, .int .u64 (a : Int), .int .u64 (b : Int)] W fun e W' => e = .returned (.bool true) ∧ Below W.heap.size W W' := by
  have p1 : decide ((op : Int) ≥ 1) = false := by simp; omega
  have p10 : decide ((op : Int) ≥ 10) = false := by simp; omega
  have p17 : decide ((op : Int) ≥ 17) = false := by simp; omega
  have q9 : decide ((op : Int) ≤ 9) = true := by simp; omega
  have q16 : decide ((op : Int) ≤ 16) = true := by simp; omega
  have q22 : decide ((op : Int) ≤ 22) = true := by simp; omega
  have K := hide (@works_calls W)
  have HB := hide (Below.refl W.heap.size W)
  have z1 : (w == 64) = false := by simp [hw2]
  have z2 : (w == 32) = false := by simp [hw1]
  clear hw1 hw2
  clear hm h1
  go_enter Try.func6, Try.ntmps6
  go_wp2_with (first | ((with_reducible refine (C.out _ HB.out).mono ?_); rintro e w1 ⟨rfl, hb⟩; have HB := hide hb; clear hb) | ((with_reducible refine (D.out _ HB.out).mono ?_); rintro e w1 ⟨rfl, hb⟩; have HB := hide hb; clear hb) | ((with_reducible refine (T.out _ HB.out).mono ?_); rintro e w1 ⟨rfl, hb⟩; have HB := hide hb; clear hb) | ((with_reducible refine (N.out _ HB.out).mono ?_); rintro e w1 ⟨rfl, hb⟩; have HB := hide hb; clear hb) | ((with_reducible refine (K.out _ HB.out).mono ?_); rintro e w1 ⟨rfl, hb⟩; have HB := hide hb; clear hb))
  go_ret
  exact ⟨rfl, HB.out⟩

set_option maxRecDepth 100000 in
set_option maxHeartbeats 1000000 in
theorem places_n_2 (op : Int) {m : Nat} (hm : op = (m : Int)) (h1 : 1 ≤ m) (h2 : m ≤ 9) {w : Int} {a b : Nat} (hw1 : w ≠ 32) (hw2 : w ≠ 64) {x y : Nat} {u v : Bool} (W : World)
    (C : Hide (∀ W1 : World, Below W.heap.size W W1 → Calls Try.prog 15 #[.int .u8 op, .int .i64 w, .int .u64 (a : Int), .int .u64 (b : Int)] W1 fun r W' => r = .returned (.tuple #[.int .u64 (x : Int), .int .i64 2]) ∧ Below W.heap.size W W'))
    (D : Hide (∀ W1 : World, Below W.heap.size W W1 → Calls Try.prog 16 #[.int .u8 op, .int .i64 w, .int .u64 (a : Int)] W1 fun r W' => r = .returned (.tuple #[.int .u64 (y : Int), .int .i64 2]) ∧ Below W.heap.size W W'))
    (T : Hide (∀ W1 : World, Below W.heap.size W W1 → Calls Try.prog 17 #[.int .u8 op, .int .i64 w, .int .u64 (a : Int), .int .u64 (b : Int)] W1 fun r W' => r = .returned (.tuple #[.bool u, .int .i64 2]) ∧ Below W.heap.size W W'))
    (N : Hide (∀ W1 : World, Below W.heap.size W W1 → Calls Try.prog 18 #[.int .i64 w, .int .u64 (a : Int)] W1 fun r W' => r = .returned (.tuple #[.bool v, .int .i64 2]) ∧ Below W.heap.size W W')) :
    Calls Try.prog 6 #[.int .u8 op, .int .i64 w, .int .u64 (a : Int), .int .u64 (b : Int)] W fun e W' => e = .returned (.bool true) ∧ Below W.heap.size W W' := by
  have p1 : decide ((op : Int) ≥ 1) = true := by simp; omega
  have p10 : decide ((op : Int) ≥ 10) = false := by simp; omega
  have p17 : decide ((op : Int) ≥ 17) = false := by simp; omega
  have q9 : decide ((op : Int) ≤ 9) = true := by simp; omega
  have q16 : decide ((op : Int) ≤ 16) = true := by simp; omega
  have q22 : decide ((op : Int) ≤ 22) = true := by simp; omega
  have K := hide (@works_calls W)
  have HB := hide (Below.refl W.heap.size W)
  have z1 : (w == 64) = false := by simp [hw2]
  have z2 : (w == 32) = false := by simp [hw1]
  clear hw1 hw2
  clear hm h1 h2
  go_enter Try.func6, Try.ntmps6
  go_wp2_with (first | ((with_reducible refine (C.out _ HB.out).mono ?_); rintro e w1 ⟨rfl, hb⟩; have HB := hide hb; clear hb) | ((with_reducible refine (D.out _ HB.out).mono ?_); rintro e w1 ⟨rfl, hb⟩; have HB := hide hb; clear hb) | ((with_reducible refine (T.out _ HB.out).mono ?_); rintro e w1 ⟨rfl, hb⟩; have HB := hide hb; clear hb) | ((with_reducible refine (N.out _ HB.out).mono ?_); rintro e w1 ⟨rfl, hb⟩; have HB := hide hb; clear hb) | ((with_reducible refine (K.out _ HB.out).mono ?_); rintro e w1 ⟨rfl, hb⟩; have HB := hide hb; clear hb))
  go_ret
  exact ⟨rfl, HB.out⟩

set_option maxRecDepth 100000 in
set_option maxHeartbeats 1000000 in
theorem places_n_1 (op : Int) {m : Nat} (hm : op = (m : Int)) (h1 : 10 ≤ m) (h2 : m ≤ 16) {w : Int} {a b : Nat} (hw1 : w ≠ 32) (hw2 : w ≠ 64) {x y : Nat} {u v : Bool} (W : World)
    (C : Hide (∀ W1 : World, Below W.heap.size W W1 → Calls Try.prog 15 #[.int .u8 op, .int .i64 w, .int .u64 (a : Int), .int .u64 (b : Int)] W1 fun r W' => r = .returned (.tuple #[.int .u64 (x : Int), .int .i64 2]) ∧ Below W.heap.size W W'))
    (D : Hide (∀ W1 : World, Below W.heap.size W W1 → Calls Try.prog 16 #[.int .u8 op, .int .i64 w, .int .u64 (a : Int)] W1 fun r W' => r = .returned (.tuple #[.int .u64 (y : Int), .int .i64 2]) ∧ Below W.heap.size W W'))
    (T : Hide (∀ W1 : World, Below W.heap.size W W1 → Calls Try.prog 17 #[.int .u8 op, .int .i64 w, .int .u64 (a : Int), .int .u64 (b : Int)] W1 fun r W' => r = .returned (.tuple #[.bool u, .int .i64 2]) ∧ Below W.heap.size W W'))
    (N : Hide (∀ W1 : World, Below W.heap.size W W1 → Calls Try.prog 18 #[.int .i64 w, .int .u64 (a : Int)] W1 fun r W' => r = .returned (.tuple #[.bool v, .int .i64 2]) ∧ Below W.heap.size W W')) :
    Calls Try.prog 6 #[.int .u8 op, .int .i64 w, .int .u64 (a : Int), .int .u64 (b : Int)] W fun e W' => e = .returned (.bool true) ∧ Below W.heap.size W W' := by
  have p1 : decide ((op : Int) ≥ 1) = true := by simp; omega
  have p10 : decide ((op : Int) ≥ 10) = true := by simp; omega
  have p17 : decide ((op : Int) ≥ 17) = false := by simp; omega
  have q9 : decide ((op : Int) ≤ 9) = false := by simp; omega
  have q16 : decide ((op : Int) ≤ 16) = true := by simp; omega
  have q22 : decide ((op : Int) ≤ 22) = true := by simp; omega
  have K := hide (@works_calls W)
  have HB := hide (Below.refl W.heap.size W)
  have z1 : (w == 64) = false := by simp [hw2]
  have z2 : (w == 32) = false := by simp [hw1]
  clear hw1 hw2
  clear hm h1 h2
  go_enter Try.func6, Try.ntmps6
  go_wp2_with (first | ((with_reducible refine (C.out _ HB.out).mono ?_); rintro e w1 ⟨rfl, hb⟩; have HB := hide hb; clear hb) | ((with_reducible refine (D.out _ HB.out).mono ?_); rintro e w1 ⟨rfl, hb⟩; have HB := hide hb; clear hb) | ((with_reducible refine (T.out _ HB.out).mono ?_); rintro e w1 ⟨rfl, hb⟩; have HB := hide hb; clear hb) | ((with_reducible refine (N.out _ HB.out).mono ?_); rintro e w1 ⟨rfl, hb⟩; have HB := hide hb; clear hb) | ((with_reducible refine (K.out _ HB.out).mono ?_); rintro e w1 ⟨rfl, hb⟩; have HB := hide hb; clear hb))
  go_ret
  exact ⟨rfl, HB.out⟩

set_option maxRecDepth 100000 in
set_option maxHeartbeats 1000000 in
theorem places_n_t (op : Int) {m : Nat} (hm : op = (m : Int)) (h1 : 17 ≤ m) (h2 : m ≤ 22) {w : Int} {a b : Nat} (hw1 : w ≠ 32) (hw2 : w ≠ 64) {x y : Nat} {u v : Bool} (W : World)
    (C : Hide (∀ W1 : World, Below W.heap.size W W1 → Calls Try.prog 15 #[.int .u8 op, .int .i64 w, .int .u64 (a : Int), .int .u64 (b : Int)] W1 fun r W' => r = .returned (.tuple #[.int .u64 (x : Int), .int .i64 2]) ∧ Below W.heap.size W W'))
    (D : Hide (∀ W1 : World, Below W.heap.size W W1 → Calls Try.prog 16 #[.int .u8 op, .int .i64 w, .int .u64 (a : Int)] W1 fun r W' => r = .returned (.tuple #[.int .u64 (y : Int), .int .i64 2]) ∧ Below W.heap.size W W'))
    (T : Hide (∀ W1 : World, Below W.heap.size W W1 → Calls Try.prog 17 #[.int .u8 op, .int .i64 w, .int .u64 (a : Int), .int .u64 (b : Int)] W1 fun r W' => r = .returned (.tuple #[.bool u, .int .i64 2]) ∧ Below W.heap.size W W'))
    (N : Hide (∀ W1 : World, Below W.heap.size W W1 → Calls Try.prog 18 #[.int .i64 w, .int .u64 (a : Int)] W1 fun r W' => r = .returned (.tuple #[.bool v, .int .i64 2]) ∧ Below W.heap.size W W')) :
    Calls Try.prog 6 #[.int .u8 op, .int .i64 w, .int .u64 (a : Int), .int .u64 (b : Int)] W fun e W' => e = .returned (.bool true) ∧ Below W.heap.size W W' := by
  have p1 : decide ((op : Int) ≥ 1) = true := by simp; omega
  have p10 : decide ((op : Int) ≥ 10) = true := by simp; omega
  have p17 : decide ((op : Int) ≥ 17) = true := by simp; omega
  have q9 : decide ((op : Int) ≤ 9) = false := by simp; omega
  have q16 : decide ((op : Int) ≤ 16) = false := by simp; omega
  have q22 : decide ((op : Int) ≤ 22) = true := by simp; omega
  have K := hide (@works_calls W)
  have HB := hide (Below.refl W.heap.size W)
  have z1 : (w == 64) = false := by simp [hw2]
  have z2 : (w == 32) = false := by simp [hw1]
  clear hw1 hw2
  clear hm h1 h2
  go_enter Try.func6, Try.ntmps6
  go_wp2_with (first | ((with_reducible refine (C.out _ HB.out).mono ?_); rintro e w1 ⟨rfl, hb⟩; have HB := hide hb; clear hb) | ((with_reducible refine (D.out _ HB.out).mono ?_); rintro e w1 ⟨rfl, hb⟩; have HB := hide hb; clear hb) | ((with_reducible refine (T.out _ HB.out).mono ?_); rintro e w1 ⟨rfl, hb⟩; have HB := hide hb; clear hb) | ((with_reducible refine (N.out _ HB.out).mono ?_); rintro e w1 ⟨rfl, hb⟩; have HB := hide hb; clear hb) | ((with_reducible refine (K.out _ HB.out).mono ?_); rintro e w1 ⟨rfl, hb⟩; have HB := hide hb; clear hb))
  go_ret
  exact ⟨rfl, HB.out⟩

set_option maxRecDepth 100000 in
set_option maxHeartbeats 1000000 in
theorem places_n_9 (op : Int) {m : Nat} (hm : op = (m : Int)) (h1 : 22 < m) {w : Int} {a b : Nat} (hw1 : w ≠ 32) (hw2 : w ≠ 64) {x y : Nat} {u v : Bool} (W : World)
    (C : Hide (∀ W1 : World, Below W.heap.size W W1 → Calls Try.prog 15 #[.int .u8 op, .int .i64 w, .int .u64 (a : Int), .int .u64 (b : Int)] W1 fun r W' => r = .returned (.tuple #[.int .u64 (x : Int), .int .i64 2]) ∧ Below W.heap.size W W'))
    (D : Hide (∀ W1 : World, Below W.heap.size W W1 → Calls Try.prog 16 #[.int .u8 op, .int .i64 w, .int .u64 (a : Int)] W1 fun r W' => r = .returned (.tuple #[.int .u64 (y : Int), .int .i64 2]) ∧ Below W.heap.size W W'))
    (T : Hide (∀ W1 : World, Below W.heap.size W W1 → Calls Try.prog 17 #[.int .u8 op, .int .i64 w, .int .u64 (a : Int), .int .u64 (b : Int)] W1 fun r W' => r = .returned (.tuple #[.bool u, .int .i64 2]) ∧ Below W.heap.size W W'))
    (N : Hide (∀ W1 : World, Below W.heap.size W W1 → Calls Try.prog 18 #[.int .i64 w, .int .u64 (a : Int)] W1 fun r W' => r = .returned (.tuple #[.bool v, .int .i64 2]) ∧ Below W.heap.size W W')) :
    Calls Try.prog 6 #[.int .u8 op, .int .i64 w, .int .u64 (a : Int), .int .u64 (b : Int)] W fun e W' => e = .returned (.bool true) ∧ Below W.heap.size W W' := by
  have p1 : decide ((op : Int) ≥ 1) = true := by simp; omega
  have p10 : decide ((op : Int) ≥ 10) = true := by simp; omega
  have p17 : decide ((op : Int) ≥ 17) = true := by simp; omega
  have q9 : decide ((op : Int) ≤ 9) = false := by simp; omega
  have q16 : decide ((op : Int) ≤ 16) = false := by simp; omega
  have q22 : decide ((op : Int) ≤ 22) = false := by simp; omega
  have K := hide (@works_calls W)
  have HB := hide (Below.refl W.heap.size W)
  have z1 : (w == 64) = false := by simp [hw2]
  have z2 : (w == 32) = false := by simp [hw1]
  clear hw1 hw2
  clear hm h1
  go_enter Try.func6, Try.ntmps6
  go_wp2_with (first | ((with_reducible refine (C.out _ HB.out).mono ?_); rintro e w1 ⟨rfl, hb⟩; have HB := hide hb; clear hb) | ((with_reducible refine (D.out _ HB.out).mono ?_); rintro e w1 ⟨rfl, hb⟩; have HB := hide hb; clear hb) | ((with_reducible refine (T.out _ HB.out).mono ?_); rintro e w1 ⟨rfl, hb⟩; have HB := hide hb; clear hb) | ((with_reducible refine (N.out _ HB.out).mono ?_); rintro e w1 ⟨rfl, hb⟩; have HB := hide hb; clear hb) | ((with_reducible refine (K.out _ HB.out).mono ?_); rintro e w1 ⟨rfl, hb⟩; have HB := hide hb; clear hb))
  go_ret
  exact ⟨rfl, HB.out⟩

theorem two_err (op w a b : Nat) : (two op w a b).2 = if 1 ≤ op ∧ op ≤ 9 then 0 else 2 := by
  by_cases h : 1 ≤ op ∧ op ≤ 9
  · rw [if_pos h]
    rcases (show op = 1 ∨ op = 2 ∨ op = 3 ∨ op = 4 ∨ op = 5 ∨ op = 6 ∨ op = 7 ∨ op = 8 ∨ op = 9 by omega) with rfl | rfl | rfl | rfl | rfl | rfl | rfl | rfl | rfl <;> rfl
  · rw [if_neg h, two_none (by omega)]
theorem one_err (op w a : Nat) : (one op w a).2 = if 10 ≤ op ∧ op ≤ 16 then 0 else 2 := by
  by_cases h : 10 ≤ op ∧ op ≤ 16
  · rw [if_pos h]
    rcases (show op = 10 ∨ op = 11 ∨ op = 12 ∨ op = 13 ∨ op = 14 ∨ op = 15 ∨ op = 16 by omega) with rfl | rfl | rfl | rfl | rfl | rfl | rfl <;> rfl
  · rw [if_neg h, one_none (by omega)]
theorem than_err (op w a b : Nat) : (than op w a b).2 = if 17 ≤ op ∧ op ≤ 22 then 0 else 2 := by
  by_cases h : 17 ≤ op ∧ op ≤ 22
  · rw [if_pos h]
    rcases (show op = 17 ∨ op = 18 ∨ op = 19 ∨ op = 20 ∨ op = 21 ∨ op = 22 by omega) with rfl | rfl | rfl | rfl | rfl | rfl <;> rfl
  · rw [if_neg h, than_none (by omega)]

theorem FloatsPlaces_calls (op w a b : Int) (w0 : (Lit.int .u8 op).wf = true) (w2 : (Lit.int .u64 a).wf = true) (w3 : (Lit.int .u64 b).wf = true) (W : World) :
    Calls Try.prog 6 #[.int .u8 op, .int .i64 w, .int .u64 a, .int .u64 b] W fun e W' => e = .returned (.bool true) ∧ Below W.heap.size W W' := by
  obtain ⟨op, rfl⟩ := wf8 w0
  obtain ⟨a, rfl, ha⟩ := wf64 w2
  obtain ⟨b, rfl, hb⟩ := wf64 w3
  have C := @Two_full W op w a b ha hb
  have D := @One_full W op w a ha
  have T := @Than_full W op w a b ha hb
  have N := @None_full W w a ha
  simp only [pairV, pairB] at C D T N
  have eC : (twoF op w a b).2 = if okW w a && okW w b then (if 1 ≤ op ∧ op ≤ 9 then 0 else 2) else 2 := by unfold twoF; split <;> simp [two_err]
  have eD : (oneF op w a).2 = if okW w a then (if 10 ≤ op ∧ op ≤ 16 then 0 else 2) else 2 := by unfold oneF; split <;> simp [one_err]
  have eT : (thanF op w a b).2 = if okW w a && okW w b then (if 17 ≤ op ∧ op ≤ 22 then 0 else 2) else 2 := by unfold thanF; split <;> simp [than_err]
  have eN : (noneF w a).2 = if okW w a then 0 else 2 := by unfold noneF; split <;> rfl
  rw [eC] at C
  rw [eD] at D
  rw [eT] at T
  rw [eN] at N
  clear eC eD eT eN
  generalize (twoF op w a b).1 = x at *
  generalize (oneF op w a).1 = y at *
  generalize (thanF op w a b).1 = u at *
  generalize (noneF w a).1 = v at *
  by_cases hw64 : w = 64
  · subst hw64
    have k1 : okW 64 a = true := rfl
    have k2 : okW 64 b = true := rfl
    rw [k1, k2] at C T
    rw [k1] at D N
    rcases (show (op = 0) ∨ (1 ≤ op ∧ op ≤ 9) ∨ (10 ≤ op ∧ op ≤ 16) ∨ (17 ≤ op ∧ op ≤ 22) ∨ (22 < op) by omega) with c | c | c | c | c
    · have f2 : (1 ≤ op ∧ op ≤ 9) = False := by simp; omega
      have f1 : (10 ≤ op ∧ op ≤ 16) = False := by simp; omega
      have ft : (17 ≤ op ∧ op ≤ 22) = False := by simp; omega
      simp only [f2, f1, ft, if_true, if_false, Bool.and_self, Bool.and_true, Bool.and_false, Bool.false_and, Bool.true_and, Bool.false_eq_true, reduceIte, show ((0 : Nat) : Int) = 0 from rfl, show ((2 : Nat) : Int) = 2 from rfl] at C D T N
      exact places_d_0 _ rfl c W (hide C) (hide D) (hide T) (hide N)
    · have f2 : (1 ≤ op ∧ op ≤ 9) = True := by simp; omega
      have f1 : (10 ≤ op ∧ op ≤ 16) = False := by simp; omega
      have ft : (17 ≤ op ∧ op ≤ 22) = False := by simp; omega
      simp only [f2, f1, ft, if_true, if_false, Bool.and_self, Bool.and_true, Bool.and_false, Bool.false_and, Bool.true_and, Bool.false_eq_true, reduceIte, show ((0 : Nat) : Int) = 0 from rfl, show ((2 : Nat) : Int) = 2 from rfl] at C D T N
      exact places_d_2 _ rfl c.1 c.2 W (hide C) (hide D) (hide T) (hide N)
    · have f2 : (1 ≤ op ∧ op ≤ 9) = False := by simp; omega
      have f1 : (10 ≤ op ∧ op ≤ 16) = True := by simp; omega
      have ft : (17 ≤ op ∧ op ≤ 22) = False := by simp; omega
      simp only [f2, f1, ft, if_true, if_false, Bool.and_self, Bool.and_true, Bool.and_false, Bool.false_and, Bool.true_and, Bool.false_eq_true, reduceIte, show ((0 : Nat) : Int) = 0 from rfl, show ((2 : Nat) : Int) = 2 from rfl] at C D T N
      exact places_d_1 _ rfl c.1 c.2 W (hide C) (hide D) (hide T) (hide N)
    · have f2 : (1 ≤ op ∧ op ≤ 9) = False := by simp; omega
      have f1 : (10 ≤ op ∧ op ≤ 16) = False := by simp; omega
      have ft : (17 ≤ op ∧ op ≤ 22) = True := by simp; omega
      simp only [f2, f1, ft, if_true, if_false, Bool.and_self, Bool.and_true, Bool.and_false, Bool.false_and, Bool.true_and, Bool.false_eq_true, reduceIte, show ((0 : Nat) : Int) = 0 from rfl, show ((2 : Nat) : Int) = 2 from rfl] at C D T N
      exact places_d_t _ rfl c.1 c.2 W (hide C) (hide D) (hide T) (hide N)
    · have f2 : (1 ≤ op ∧ op ≤ 9) = False := by simp; omega
      have f1 : (10 ≤ op ∧ op ≤ 16) = False := by simp; omega
      have ft : (17 ≤ op ∧ op ≤ 22) = False := by simp; omega
      simp only [f2, f1, ft, if_true, if_false, Bool.and_self, Bool.and_true, Bool.and_false, Bool.false_and, Bool.true_and, Bool.false_eq_true, reduceIte, show ((0 : Nat) : Int) = 0 from rfl, show ((2 : Nat) : Int) = 2 from rfl] at C D T N
      exact places_d_9 _ rfl c W (hide C) (hide D) (hide T) (hide N)
  · by_cases hw32 : w = 32
    · subst hw32
      have k1 : okW 32 a = decide (a ≤ 4294967295) := rfl
      have k2 : okW 32 b = decide (b ≤ 4294967295) := rfl
      rw [k1, k2] at C T
      rw [k1] at D N
      by_cases c1 : a ≤ 4294967295
      · by_cases c2 : b ≤ 4294967295
        · rw [decide_eq_true c1, decide_eq_true c2] at C T
          rw [decide_eq_true c1] at D N
          rcases (show (op = 0) ∨ (1 ≤ op ∧ op ≤ 9) ∨ (10 ≤ op ∧ op ≤ 16) ∨ (17 ≤ op ∧ op ≤ 22) ∨ (22 < op) by omega) with c | c | c | c | c
          · have f2 : (1 ≤ op ∧ op ≤ 9) = False := by simp; omega
            have f1 : (10 ≤ op ∧ op ≤ 16) = False := by simp; omega
            have ft : (17 ≤ op ∧ op ≤ 22) = False := by simp; omega
            simp only [f2, f1, ft, if_true, if_false, Bool.and_self, Bool.and_true, Bool.and_false, Bool.false_and, Bool.true_and, Bool.false_eq_true, reduceIte, show ((0 : Nat) : Int) = 0 from rfl, show ((2 : Nat) : Int) = 2 from rfl] at C D T N
            exact places_s_0 _ rfl c c1 c2 W (hide C) (hide D) (hide T) (hide N)
          · have f2 : (1 ≤ op ∧ op ≤ 9) = True := by simp; omega
            have f1 : (10 ≤ op ∧ op ≤ 16) = False := by simp; omega
            have ft : (17 ≤ op ∧ op ≤ 22) = False := by simp; omega
            simp only [f2, f1, ft, if_true, if_false, Bool.and_self, Bool.and_true, Bool.and_false, Bool.false_and, Bool.true_and, Bool.false_eq_true, reduceIte, show ((0 : Nat) : Int) = 0 from rfl, show ((2 : Nat) : Int) = 2 from rfl] at C D T N
            exact places_s_2 _ rfl c.1 c.2 c1 c2 W (hide C) (hide D) (hide T) (hide N)
          · have f2 : (1 ≤ op ∧ op ≤ 9) = False := by simp; omega
            have f1 : (10 ≤ op ∧ op ≤ 16) = True := by simp; omega
            have ft : (17 ≤ op ∧ op ≤ 22) = False := by simp; omega
            simp only [f2, f1, ft, if_true, if_false, Bool.and_self, Bool.and_true, Bool.and_false, Bool.false_and, Bool.true_and, Bool.false_eq_true, reduceIte, show ((0 : Nat) : Int) = 0 from rfl, show ((2 : Nat) : Int) = 2 from rfl] at C D T N
            exact places_s_1 _ rfl c.1 c.2 c1 c2 W (hide C) (hide D) (hide T) (hide N)
          · have f2 : (1 ≤ op ∧ op ≤ 9) = False := by simp; omega
            have f1 : (10 ≤ op ∧ op ≤ 16) = False := by simp; omega
            have ft : (17 ≤ op ∧ op ≤ 22) = True := by simp; omega
            simp only [f2, f1, ft, if_true, if_false, Bool.and_self, Bool.and_true, Bool.and_false, Bool.false_and, Bool.true_and, Bool.false_eq_true, reduceIte, show ((0 : Nat) : Int) = 0 from rfl, show ((2 : Nat) : Int) = 2 from rfl] at C D T N
            exact places_s_t _ rfl c.1 c.2 c1 c2 W (hide C) (hide D) (hide T) (hide N)
          · have f2 : (1 ≤ op ∧ op ≤ 9) = False := by simp; omega
            have f1 : (10 ≤ op ∧ op ≤ 16) = False := by simp; omega
            have ft : (17 ≤ op ∧ op ≤ 22) = False := by simp; omega
            simp only [f2, f1, ft, if_true, if_false, Bool.and_self, Bool.and_true, Bool.and_false, Bool.false_and, Bool.true_and, Bool.false_eq_true, reduceIte, show ((0 : Nat) : Int) = 0 from rfl, show ((2 : Nat) : Int) = 2 from rfl] at C D T N
            exact places_s_9 _ rfl c c1 c2 W (hide C) (hide D) (hide T) (hide N)
        · rw [decide_eq_true c1, decide_eq_false c2] at C T
          rw [decide_eq_true c1] at D N
          rcases (show (op = 0) ∨ (1 ≤ op ∧ op ≤ 9) ∨ (10 ≤ op ∧ op ≤ 16) ∨ (17 ≤ op ∧ op ≤ 22) ∨ (22 < op) by omega) with c | c | c | c | c
          · have f2 : (1 ≤ op ∧ op ≤ 9) = False := by simp; omega
            have f1 : (10 ≤ op ∧ op ≤ 16) = False := by simp; omega
            have ft : (17 ≤ op ∧ op ≤ 22) = False := by simp; omega
            simp only [f2, f1, ft, if_true, if_false, Bool.and_self, Bool.and_true, Bool.and_false, Bool.false_and, Bool.true_and, Bool.false_eq_true, reduceIte, show ((0 : Nat) : Int) = 0 from rfl, show ((2 : Nat) : Int) = 2 from rfl] at C D T N
            exact places_sa_0 _ rfl c c1 c2 W (hide C) (hide D) (hide T) (hide N)
          · have f2 : (1 ≤ op ∧ op ≤ 9) = True := by simp; omega
            have f1 : (10 ≤ op ∧ op ≤ 16) = False := by simp; omega
            have ft : (17 ≤ op ∧ op ≤ 22) = False := by simp; omega
            simp only [f2, f1, ft, if_true, if_false, Bool.and_self, Bool.and_true, Bool.and_false, Bool.false_and, Bool.true_and, Bool.false_eq_true, reduceIte, show ((0 : Nat) : Int) = 0 from rfl, show ((2 : Nat) : Int) = 2 from rfl] at C D T N
            exact places_sa_2 _ rfl c.1 c.2 c1 c2 W (hide C) (hide D) (hide T) (hide N)
          · have f2 : (1 ≤ op ∧ op ≤ 9) = False := by simp; omega
            have f1 : (10 ≤ op ∧ op ≤ 16) = True := by simp; omega
            have ft : (17 ≤ op ∧ op ≤ 22) = False := by simp; omega
            simp only [f2, f1, ft, if_true, if_false, Bool.and_self, Bool.and_true, Bool.and_false, Bool.false_and, Bool.true_and, Bool.false_eq_true, reduceIte, show ((0 : Nat) : Int) = 0 from rfl, show ((2 : Nat) : Int) = 2 from rfl] at C D T N
            exact places_sa_1 _ rfl c.1 c.2 c1 c2 W (hide C) (hide D) (hide T) (hide N)
          · have f2 : (1 ≤ op ∧ op ≤ 9) = False := by simp; omega
            have f1 : (10 ≤ op ∧ op ≤ 16) = False := by simp; omega
            have ft : (17 ≤ op ∧ op ≤ 22) = True := by simp; omega
            simp only [f2, f1, ft, if_true, if_false, Bool.and_self, Bool.and_true, Bool.and_false, Bool.false_and, Bool.true_and, Bool.false_eq_true, reduceIte, show ((0 : Nat) : Int) = 0 from rfl, show ((2 : Nat) : Int) = 2 from rfl] at C D T N
            exact places_sa_t _ rfl c.1 c.2 c1 c2 W (hide C) (hide D) (hide T) (hide N)
          · have f2 : (1 ≤ op ∧ op ≤ 9) = False := by simp; omega
            have f1 : (10 ≤ op ∧ op ≤ 16) = False := by simp; omega
            have ft : (17 ≤ op ∧ op ≤ 22) = False := by simp; omega
            simp only [f2, f1, ft, if_true, if_false, Bool.and_self, Bool.and_true, Bool.and_false, Bool.false_and, Bool.true_and, Bool.false_eq_true, reduceIte, show ((0 : Nat) : Int) = 0 from rfl, show ((2 : Nat) : Int) = 2 from rfl] at C D T N
            exact places_sa_9 _ rfl c c1 c2 W (hide C) (hide D) (hide T) (hide N)
      · rw [decide_eq_false c1] at C D T N
        rcases (show (op = 0) ∨ (1 ≤ op ∧ op ≤ 9) ∨ (10 ≤ op ∧ op ≤ 16) ∨ (17 ≤ op ∧ op ≤ 22) ∨ (22 < op) by omega) with c | c | c | c | c
        · have f2 : (1 ≤ op ∧ op ≤ 9) = False := by simp; omega
          have f1 : (10 ≤ op ∧ op ≤ 16) = False := by simp; omega
          have ft : (17 ≤ op ∧ op ≤ 22) = False := by simp; omega
          simp only [f2, f1, ft, if_true, if_false, Bool.and_self, Bool.and_true, Bool.and_false, Bool.false_and, Bool.true_and, Bool.false_eq_true, reduceIte, show ((0 : Nat) : Int) = 0 from rfl, show ((2 : Nat) : Int) = 2 from rfl] at C D T N
          exact places_sb_0 _ rfl c c1 W (hide C) (hide D) (hide T) (hide N)
        · have f2 : (1 ≤ op ∧ op ≤ 9) = True := by simp; omega
          have f1 : (10 ≤ op ∧ op ≤ 16) = False := by simp; omega
          have ft : (17 ≤ op ∧ op ≤ 22) = False := by simp; omega
          simp only [f2, f1, ft, if_true, if_false, Bool.and_self, Bool.and_true, Bool.and_false, Bool.false_and, Bool.true_and, Bool.false_eq_true, reduceIte, show ((0 : Nat) : Int) = 0 from rfl, show ((2 : Nat) : Int) = 2 from rfl] at C D T N
          exact places_sb_2 _ rfl c.1 c.2 c1 W (hide C) (hide D) (hide T) (hide N)
        · have f2 : (1 ≤ op ∧ op ≤ 9) = False := by simp; omega
          have f1 : (10 ≤ op ∧ op ≤ 16) = True := by simp; omega
          have ft : (17 ≤ op ∧ op ≤ 22) = False := by simp; omega
          simp only [f2, f1, ft, if_true, if_false, Bool.and_self, Bool.and_true, Bool.and_false, Bool.false_and, Bool.true_and, Bool.false_eq_true, reduceIte, show ((0 : Nat) : Int) = 0 from rfl, show ((2 : Nat) : Int) = 2 from rfl] at C D T N
          exact places_sb_1 _ rfl c.1 c.2 c1 W (hide C) (hide D) (hide T) (hide N)
        · have f2 : (1 ≤ op ∧ op ≤ 9) = False := by simp; omega
          have f1 : (10 ≤ op ∧ op ≤ 16) = False := by simp; omega
          have ft : (17 ≤ op ∧ op ≤ 22) = True := by simp; omega
          simp only [f2, f1, ft, if_true, if_false, Bool.and_self, Bool.and_true, Bool.and_false, Bool.false_and, Bool.true_and, Bool.false_eq_true, reduceIte, show ((0 : Nat) : Int) = 0 from rfl, show ((2 : Nat) : Int) = 2 from rfl] at C D T N
          exact places_sb_t _ rfl c.1 c.2 c1 W (hide C) (hide D) (hide T) (hide N)
        · have f2 : (1 ≤ op ∧ op ≤ 9) = False := by simp; omega
          have f1 : (10 ≤ op ∧ op ≤ 16) = False := by simp; omega
          have ft : (17 ≤ op ∧ op ≤ 22) = False := by simp; omega
          simp only [f2, f1, ft, if_true, if_false, Bool.and_self, Bool.and_true, Bool.and_false, Bool.false_and, Bool.true_and, Bool.false_eq_true, reduceIte, show ((0 : Nat) : Int) = 0 from rfl, show ((2 : Nat) : Int) = 2 from rfl] at C D T N
          exact places_sb_9 _ rfl c c1 W (hide C) (hide D) (hide T) (hide N)
    · have k1 : okW w a = false := by simp [okW, hw64, hw32]
      rw [k1] at C D T N
      rcases (show (op = 0) ∨ (1 ≤ op ∧ op ≤ 9) ∨ (10 ≤ op ∧ op ≤ 16) ∨ (17 ≤ op ∧ op ≤ 22) ∨ (22 < op) by omega) with c | c | c | c | c
      · have f2 : (1 ≤ op ∧ op ≤ 9) = False := by simp; omega
        have f1 : (10 ≤ op ∧ op ≤ 16) = False := by simp; omega
        have ft : (17 ≤ op ∧ op ≤ 22) = False := by simp; omega
        simp only [f2, f1, ft, if_true, if_false, Bool.and_self, Bool.and_true, Bool.and_false, Bool.false_and, Bool.true_and, Bool.false_eq_true, reduceIte, show ((0 : Nat) : Int) = 0 from rfl, show ((2 : Nat) : Int) = 2 from rfl] at C D T N
        exact places_n_0 _ rfl c hw32 hw64 W (hide C) (hide D) (hide T) (hide N)
      · have f2 : (1 ≤ op ∧ op ≤ 9) = True := by simp; omega
        have f1 : (10 ≤ op ∧ op ≤ 16) = False := by simp; omega
        have ft : (17 ≤ op ∧ op ≤ 22) = False := by simp; omega
        simp only [f2, f1, ft, if_true, if_false, Bool.and_self, Bool.and_true, Bool.and_false, Bool.false_and, Bool.true_and, Bool.false_eq_true, reduceIte, show ((0 : Nat) : Int) = 0 from rfl, show ((2 : Nat) : Int) = 2 from rfl] at C D T N
        exact places_n_2 _ rfl c.1 c.2 hw32 hw64 W (hide C) (hide D) (hide T) (hide N)
      · have f2 : (1 ≤ op ∧ op ≤ 9) = False := by simp; omega
        have f1 : (10 ≤ op ∧ op ≤ 16) = True := by simp; omega
        have ft : (17 ≤ op ∧ op ≤ 22) = False := by simp; omega
        simp only [f2, f1, ft, if_true, if_false, Bool.and_self, Bool.and_true, Bool.and_false, Bool.false_and, Bool.true_and, Bool.false_eq_true, reduceIte, show ((0 : Nat) : Int) = 0 from rfl, show ((2 : Nat) : Int) = 2 from rfl] at C D T N
        exact places_n_1 _ rfl c.1 c.2 hw32 hw64 W (hide C) (hide D) (hide T) (hide N)
      · have f2 : (1 ≤ op ∧ op ≤ 9) = False := by simp; omega
        have f1 : (10 ≤ op ∧ op ≤ 16) = False := by simp; omega
        have ft : (17 ≤ op ∧ op ≤ 22) = True := by simp; omega
        simp only [f2, f1, ft, if_true, if_false, Bool.and_self, Bool.and_true, Bool.and_false, Bool.false_and, Bool.true_and, Bool.false_eq_true, reduceIte, show ((0 : Nat) : Int) = 0 from rfl, show ((2 : Nat) : Int) = 2 from rfl] at C D T N
        exact places_n_t _ rfl c.1 c.2 hw32 hw64 W (hide C) (hide D) (hide T) (hide N)
      · have f2 : (1 ≤ op ∧ op ≤ 9) = False := by simp; omega
        have f1 : (10 ≤ op ∧ op ≤ 16) = False := by simp; omega
        have ft : (17 ≤ op ∧ op ≤ 22) = False := by simp; omega
        simp only [f2, f1, ft, if_true, if_false, Bool.and_self, Bool.and_true, Bool.and_false, Bool.false_and, Bool.true_and, Bool.false_eq_true, reduceIte, show ((0 : Nat) : Int) = 0 from rfl, show ((2 : Nat) : Int) = 2 from rfl] at C D T N
        exact places_n_9 _ rfl c hw32 hw64 W (hide C) (hide D) (hide T) (hide N)

end Go.Proofs.Ytgmakjmlkepfbab
