/-
  The contracts in the laws form; works; FloatsTwo, FloatsOne, FloatsThan (genflo.py wrote it).
-/
import Derived.Test.YtgmakjmlkepfbaaFloROne
import Derived.Test.YtgmakjmlkepfbaaFloThan
import Derived.DataShut
set_option linter.unusedVariables false
set_option linter.unusedSimpArgs false
namespace Go.Proofs.Ytgmakjmlkepfbaa
open Go.RowKit Flo

theorem wf_nat {k : IntKind} {n : Int} (h0 : 0 ≤ n) : ∃ m : Nat, n = (m : Int) := ⟨n.toNat, by omega⟩
theorem wf8 {n : Int} (h : (Lit.int .u8 n).wf = true) : ∃ m : Nat, n = (m : Int) := ⟨n.toNat, by have : 0 ≤ n := ((Lit.wf_int_iff _ _).1 h).1; omega⟩
theorem wf64 {n : Int} (h : (Lit.int .u64 n).wf = true) : ∃ m : Nat, n = (m : Int) ∧ m < 2 ^ 64 := by
  have h0 : 0 ≤ n := ((Lit.wf_int_iff _ _).1 h).1
  have h1 : n ≤ 18446744073709551615 := ((Lit.wf_int_iff _ _).1 h).2
  exact ⟨n.toNat, by omega, by omega⟩

def twoF (op : Nat) (w : Int) (a b : Nat) : Nat × Nat := if okW w a && okW w b then two op w.toNat a b else (0, 2)
def oneF (op : Nat) (w : Int) (a : Nat) : Nat × Nat := if okW w a then one op w.toNat a else (0, 2)
def thanF (op : Nat) (w : Int) (a b : Nat) : Bool × Nat := if okW w a && okW w b then than op w.toNat a b else (false, 2)
def noneF (w : Int) (a : Nat) : Bool × Nat := if okW w a then (na w.toNat a, 0) else (false, 2)

theorem ok_both {w : Int} {a b : Nat} (ha : a < 2 ^ 64) (hb : b < 2 ^ 64) (h : (okW w a && okW w b) = true) : ∃ n : Nat, w = n ∧ IsW n ∧ a < 2 ^ n ∧ b < 2 ^ n := by
  rw [Bool.and_eq_true] at h
  obtain ⟨n, rfl, hn, h1⟩ := of_okW ha h.1
  obtain ⟨m, hm, _, h2⟩ := of_okW hb h.2
  have : n = m := by omega
  subst this
  exact ⟨n, rfl, hn, h1, h2⟩
theorem below_same {W0 W W' : World} (h : Below W0.heap.size W0 W) (e : W' = W) : Below W0.heap.size W0 W' := by rw [e]; exact h

theorem Two_full {W0 : World} (op : Nat) (w : Int) (a b : Nat) (ha : a < 2 ^ 64) (hb : b < 2 ^ 64) (W : World) (hB : Below W0.heap.size W0 W) :
    Calls Try.prog 9 #[.int .u8 (op : Int), .int .i64 w, .int .u64 (a : Int), .int .u64 (b : Int)] W fun e W' => e = .returned (pairV (twoF op w a b)) ∧ Below W0.heap.size W0 W' := by
  unfold twoF
  cases h : (okW w a && okW w b) with
  | false =>
    rw [if_neg (by decide)]
    exact (two_bad op w a b h W).mono fun e W' h => ⟨h.1, below_two hB h.2⟩
  | true =>
    obtain ⟨n, rfl, hn, ha', hb'⟩ := ok_both ha hb h
    rw [if_pos rfl, show ((n : Int)).toNat = n from Int.toNat_natCast n]
    exact (Two_calls hn op ha' hb' W).mono fun e W' h => ⟨h.1, below_two hB h.2⟩
theorem RTwo_full {W0 : World} (op : Nat) (w : Int) (a b : Nat) (ha : a < 2 ^ 64) (hb : b < 2 ^ 64) (W : World) (hB : Below W0.heap.size W0 W) :
    Calls Try.prog 10 #[.int .u8 (op : Int), .int .i64 w, .int .u64 (a : Int), .int .u64 (b : Int)] W fun e W' => e = .returned (pairV (twoF op w a b)) ∧ Below W0.heap.size W0 W' := by
  unfold twoF
  cases h : (okW w a && okW w b) with
  | false =>
    rw [if_neg (by decide)]
    exact ((rtwo_bad op w a b h W)).mono fun e W' h => ⟨h.1, below_two hB (by rw [h.2]; exact Below.refl _ _)⟩
  | true =>
    obtain ⟨n, rfl, hn, ha', hb'⟩ := ok_both ha hb h
    rw [if_pos rfl, show ((n : Int)).toNat = n from Int.toNat_natCast n]
    exact (RTwo_calls hn op ha' hb' W).mono fun e W' h => ⟨h.1, below_two hB h.2⟩
theorem Than_full {W0 : World} (op : Nat) (w : Int) (a b : Nat) (ha : a < 2 ^ 64) (hb : b < 2 ^ 64) (W : World) (hB : Below W0.heap.size W0 W) :
    Calls Try.prog 14 #[.int .u8 (op : Int), .int .i64 w, .int .u64 (a : Int), .int .u64 (b : Int)] W fun e W' => e = .returned (pairB (thanF op w a b)) ∧ Below W0.heap.size W0 W' := by
  unfold thanF
  cases h : (okW w a && okW w b) with
  | false =>
    rw [if_neg (by decide)]
    exact (than_bad op w a b h W).mono fun e W' h => ⟨h.1, below_two hB h.2⟩
  | true =>
    obtain ⟨n, rfl, hn, ha', hb'⟩ := ok_both ha hb h
    rw [if_pos rfl, show ((n : Int)).toNat = n from Int.toNat_natCast n]
    exact (Than_calls hn op ha' hb' W).mono fun e W' h => ⟨h.1, below_two hB h.2⟩
theorem RThan_full {W0 : World} (op : Nat) (w : Int) (a b : Nat) (ha : a < 2 ^ 64) (hb : b < 2 ^ 64) (W : World) (hB : Below W0.heap.size W0 W) :
    Calls Try.prog 15 #[.int .u8 (op : Int), .int .i64 w, .int .u64 (a : Int), .int .u64 (b : Int)] W fun e W' => e = .returned (pairB (thanF op w a b)) ∧ Below W0.heap.size W0 W' := by
  unfold thanF
  cases h : (okW w a && okW w b) with
  | false =>
    rw [if_neg (by decide)]
    exact ((rthan_bad op w a b h W)).mono fun e W' h => ⟨h.1, below_two hB (by rw [h.2]; exact Below.refl _ _)⟩
  | true =>
    obtain ⟨n, rfl, hn, ha', hb'⟩ := ok_both ha hb h
    rw [if_pos rfl, show ((n : Int)).toNat = n from Int.toNat_natCast n]
    exact ((RThan_calls hn ha' hb' op W)).mono fun e W' h => ⟨h.1, below_two hB (by rw [h.2]; exact Below.refl _ _)⟩
theorem One_full {W0 : World} (op : Nat) (w : Int) (a : Nat) (ha : a < 2 ^ 64) (W : World) (hB : Below W0.heap.size W0 W) :
    Calls Try.prog 12 #[.int .u8 (op : Int), .int .i64 w, .int .u64 (a : Int)] W fun e W' => e = .returned (pairV (oneF op w a)) ∧ Below W0.heap.size W0 W' := by
  unfold oneF
  cases h : okW w a with
  | false =>
    rw [if_neg (by decide)]
    exact (one_bad op w a h W).mono fun e W' h => ⟨h.1, below_two hB h.2⟩
  | true =>
    obtain ⟨n, rfl, hn, ha'⟩ := of_okW ha h
    rw [if_pos rfl, show ((n : Int)).toNat = n from Int.toNat_natCast n]
    exact (One_calls hn op ha' W).mono fun e W' h => ⟨h.1, below_two hB h.2⟩
theorem ROne_full {W0 : World} (op : Nat) (w : Int) (a : Nat) (ha : a < 2 ^ 64) (W : World) (hB : Below W0.heap.size W0 W) :
    Calls Try.prog 13 #[.int .u8 (op : Int), .int .i64 w, .int .u64 (a : Int)] W fun e W' => e = .returned (pairV (oneF op w a)) ∧ Below W0.heap.size W0 W' := by
  unfold oneF
  cases h : okW w a with
  | false =>
    rw [if_neg (by decide)]
    exact ((rone_bad op w a h W)).mono fun e W' h => ⟨h.1, below_two hB (by rw [h.2]; exact Below.refl _ _)⟩
  | true =>
    obtain ⟨n, rfl, hn, ha'⟩ := of_okW ha h
    rw [if_pos rfl, show ((n : Int)).toNat = n from Int.toNat_natCast n]
    exact (ROne_calls hn ha' op W).mono fun e W' h => ⟨h.1, below_two hB h.2⟩
theorem None_full {W0 : World} (w : Int) (a : Nat) (ha : a < 2 ^ 64) (W : World) (hB : Below W0.heap.size W0 W) :
    Calls Try.prog 16 #[.int .i64 w, .int .u64 (a : Int)] W fun e W' => e = .returned (pairB (noneF w a)) ∧ Below W0.heap.size W0 W' :=
  (None_calls w a ha W).mono fun e W' h => ⟨h.1, below_two hB h.2⟩
theorem RNone_full {W0 : World} (w : Int) (a : Nat) (ha : a < 2 ^ 64) (W : World) (hB : Below W0.heap.size W0 W) :
    Calls Try.prog 17 #[.int .i64 w, .int .u64 (a : Int)] W fun e W' => e = .returned (pairB (noneF w a)) ∧ Below W0.heap.size W0 W' :=
  (RNone_calls w a ha W).mono fun e W' h => ⟨h.1, below_two hB (by rw [h.2]; exact Below.refl _ _)⟩

theorem w1_is : two 1 32 1065353217 864026624 = (1065353218, 0) := by decide +kernel
theorem w2_is : two 4 64 0 0 = (9221120237041090560, 0) := by decide +kernel

set_option maxRecDepth 100000 in
set_option maxHeartbeats 1000000 in
theorem works_calls {W0 : World} (W : World) (hB : Below W0.heap.size W0 W) :
    Calls Try.prog 11 #[] W fun e W' => e = .returned (.bool true) ∧ Below W0.heap.size W0 W' := by
  have C1 : ∀ W, Below W0.heap.size W0 W → Calls Try.prog 9 #[.int .u8 1, .int .i64 32, .int .u64 1065353217, .int .u64 864026624] W fun e W' => e = .returned (.tuple #[.int .u64 1065353218, .int .i64 0]) ∧ Below W0.heap.size W0 W' := fun W hB => by
    have h := Two_calls (w := 32) (.inl rfl) 1 (a := 1065353217) (b := 864026624) (by decide) (by decide) W
    rw [w1_is] at h
    exact h.mono fun e W' ⟨he, hk⟩ => ⟨he, below_two hB hk⟩
  have C2 : ∀ W, Below W0.heap.size W0 W → Calls Try.prog 9 #[.int .u8 4, .int .i64 64, .int .u64 0, .int .u64 0] W fun e W' => e = .returned (.tuple #[.int .u64 9221120237041090560, .int .i64 0]) ∧ Below W0.heap.size W0 W' := fun W hB => by
    have h := Two_calls (w := 64) (.inr rfl) 4 (a := 0) (b := 0) (by decide) (by decide) W
    rw [w2_is] at h
    exact h.mono fun e W' ⟨he, hk⟩ => ⟨he, below_two hB hk⟩
  have C1 := hide C1
  have C2 := hide C2
  have HB := hide hB
  clear hB
  go_enter Try.func11, Try.ntmps11
  go_wp2_with (first | ((with_reducible refine (C1.out _ HB.out).mono ?_); rintro e w1 ⟨rfl, hb⟩; have HB := hide hb; clear hb) | ((with_reducible refine (C2.out _ HB.out).mono ?_); rintro e w1 ⟨rfl, hb⟩; have HB := hide hb; clear hb))
  go_ret
  exact ⟨rfl, HB.out⟩

set_option maxRecDepth 100000 in
set_option maxHeartbeats 1000000 in
theorem FloatsTwo_calls (op w a b : Int) (w0 : (Lit.int .u8 op).wf = true) (w2 : (Lit.int .u64 a).wf = true) (w3 : (Lit.int .u64 b).wf = true) (W : World) :
    Calls Try.prog 3 #[.int .u8 op, .int .i64 w, .int .u64 a, .int .u64 b] W fun e W' => e = .returned (.bool true) ∧ Below W.heap.size W W' := by
  obtain ⟨op, rfl⟩ := wf8 w0
  obtain ⟨a, rfl, ha⟩ := wf64 w2
  obtain ⟨b, rfl, hb⟩ := wf64 w3
  have C := @Two_full W op w a b ha hb
  have R := @RTwo_full W op w a b ha hb
  simp only [pairV] at C R
  generalize (twoF op w a b).1 = x at *
  generalize (twoF op w a b).2 = y at *
  have C := hide C
  have R := hide R
  have K := hide (@works_calls W)
  have HB := hide (Below.refl W.heap.size W)
  clear w0 w2 w3 ha hb
  go_enter Try.func3, Try.ntmps3
  go_wp2_with (first | ((with_reducible refine (C.out _ HB.out).mono ?_); rintro e w1 ⟨rfl, hb⟩; have HB := hide hb; clear hb) | ((with_reducible refine (R.out _ HB.out).mono ?_); rintro e w1 ⟨rfl, hb⟩; have HB := hide hb; clear hb) | ((with_reducible refine (K.out _ HB.out).mono ?_); rintro e w1 ⟨rfl, hb⟩; have HB := hide hb; clear hb))
  go_ret
  exact ⟨rfl, HB.out⟩

set_option maxRecDepth 100000 in
set_option maxHeartbeats 1000000 in
theorem FloatsOne_calls (op w a : Int) (w0 : (Lit.int .u8 op).wf = true) (w2 : (Lit.int .u64 a).wf = true) (W : World) :
    Calls Try.prog 4 #[.int .u8 op, .int .i64 w, .int .u64 a] W fun e W' => e = .returned (.bool true) ∧ Below W.heap.size W W' := by
  obtain ⟨op, rfl⟩ := wf8 w0
  obtain ⟨a, rfl, ha⟩ := wf64 w2
  have C := @One_full W op w a ha
  have R := @ROne_full W op w a ha
  simp only [pairV] at C R
  generalize (oneF op w a).1 = x at *
  generalize (oneF op w a).2 = y at *
  have C := hide C
  have R := hide R
  have K := hide (@works_calls W)
  have HB := hide (Below.refl W.heap.size W)
  clear w0 w2 ha
  go_enter Try.func4, Try.ntmps4
  go_wp2_with (first | ((with_reducible refine (C.out _ HB.out).mono ?_); rintro e w1 ⟨rfl, hb⟩; have HB := hide hb; clear hb) | ((with_reducible refine (R.out _ HB.out).mono ?_); rintro e w1 ⟨rfl, hb⟩; have HB := hide hb; clear hb) | ((with_reducible refine (K.out _ HB.out).mono ?_); rintro e w1 ⟨rfl, hb⟩; have HB := hide hb; clear hb))
  go_ret
  exact ⟨rfl, HB.out⟩

set_option maxRecDepth 100000 in
set_option maxHeartbeats 1000000 in
theorem FloatsThan_calls (op w a b : Int) (w0 : (Lit.int .u8 op).wf = true) (w2 : (Lit.int .u64 a).wf = true) (w3 : (Lit.int .u64 b).wf = true) (W : World) :
    Calls Try.prog 5 #[.int .u8 op, .int .i64 w, .int .u64 a, .int .u64 b] W fun e W' => e = .returned (.bool true) ∧ Below W.heap.size W W' := by
  obtain ⟨op, rfl⟩ := wf8 w0
  obtain ⟨a, rfl, ha⟩ := wf64 w2
  obtain ⟨b, rfl, hb⟩ := wf64 w3
  have C := @Than_full W op w a b ha hb
  have R := @RThan_full W op w a b ha hb
  have N := @None_full W w a ha
  have M := @RNone_full W w a ha
  simp only [pairB] at C R N M
  generalize (thanF op w a b).1 = x at *
  generalize (thanF op w a b).2 = y at *
  generalize (noneF w a).1 = u at *
  generalize (noneF w a).2 = v at *
  have C := hide C
  have R := hide R
  have N := hide N
  have M := hide M
  have K := hide (@works_calls W)
  have HB := hide (Below.refl W.heap.size W)
  clear w0 w2 w3 ha hb
  cases x <;> cases u
  all_goals
    go_enter Try.func5, Try.ntmps5
    go_wp2_with (first | ((with_reducible refine (C.out _ HB.out).mono ?_); rintro e w1 ⟨rfl, hb⟩; have HB := hide hb; clear hb) | ((with_reducible refine (R.out _ HB.out).mono ?_); rintro e w1 ⟨rfl, hb⟩; have HB := hide hb; clear hb) | ((with_reducible refine (N.out _ HB.out).mono ?_); rintro e w1 ⟨rfl, hb⟩; have HB := hide hb; clear hb) | ((with_reducible refine (M.out _ HB.out).mono ?_); rintro e w1 ⟨rfl, hb⟩; have HB := hide hb; clear hb) | ((with_reducible refine (K.out _ HB.out).mono ?_); rintro e w1 ⟨rfl, hb⟩; have HB := hide hb; clear hb))
    go_ret
    exact ⟨rfl, HB.out⟩

end Go.Proofs.Ytgmakjmlkepfbaa
