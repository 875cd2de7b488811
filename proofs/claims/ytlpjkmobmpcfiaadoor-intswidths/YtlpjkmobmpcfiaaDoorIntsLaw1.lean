/-
  The contracts in the laws' form; 'works'; IntsTwo, IntsOne, IntsThan, IntsWidths.
-/
import Derived.Test.YtlpjkmobmpcfiaaDoorIntsRTwo
import Derived.Test.YtlpjkmobmpcfiaaDoorIntsROne
import Derived.Test.YtlpjkmobmpcfiaaDoorIntsThan
import Derived.Test.YtlpjkmobmpcfiaaDoorIntsWide
import Derived.DataShut
set_option linter.unusedVariables false
set_option linter.unusedSimpArgs false
namespace Go.Proofs.YtlpjkmobmpcfiaaDoor
open Go.RowKit Ints

theorem wf8_lo {n : Int} (h : (Lit.int .u8 n).wf = true) : 0 ≤ n := ((Lit.wf_int_iff _ _).1 h).1
theorem wf64_lo {n : Int} (h : (Lit.int .u64 n).wf = true) : 0 ≤ n := ((Lit.wf_int_iff _ _).1 h).1
theorem wf64_hi {n : Int} (h : (Lit.int .u64 n).wf = true) : n < 18446744073709551616 := by
  have : n ≤ 18446744073709551615 := ((Lit.wf_int_iff _ _).1 h).2
  omega

def twoF (op w a b : Int) : Int × Int := if ok2 w a b then two op.toNat w.toNat a b else (0, 2)
def oneF (op w a : Int) : Int × Int := if ok1 w a then one op.toNat w.toNat a else (0, 2)
def thanF (op w a b : Int) : Bool × Int := if ok2 w a b then than op.toNat w.toNat a b else (false, 2)

theorem below_from {W0 W W' : World} (h : Below W0.heap.size W0 W) (k : Below W.heap.size W W') : Below W0.heap.size W0 W' :=
  h.trans ⟨k.os, k.tape, k.output, k.size, fun i hi => k.block i (Nat.lt_of_lt_of_le hi h.size)⟩

theorem Two_full (op w a b : Int) (ho : 0 ≤ op) (ha : 0 ≤ a) (hb : 0 ≤ b) (W : World) (hT : Tabs W) :
    Calls Tryd.prog 9 #[.int .u8 op, .int .i64 w, .int .u64 a, .int .u64 b] W fun e W' => e = .returned (pairV (twoF op w a b)) ∧ Below W.heap.size W W' := by
  unfold twoF
  cases h : ok2 w a b with
  | false => rw [if_neg (by decide)]; exact two_bad op w a b h W hT
  | true =>
    obtain ⟨n, rfl, hn, ha', hb'⟩ := of_ok2 ha hb h
    rw [if_pos rfl]
    exact Two_calls hn op a b ho ha' hb' W hT

theorem RTwo_full (op w a b : Int) (ho : 0 ≤ op) (ha : 0 ≤ a) (hb : 0 ≤ b) (W : World) :
    Calls Tryd.prog 10 #[.int .u8 op, .int .i64 w, .int .u64 a, .int .u64 b] W fun e W' => e = .returned (pairV (twoF op w a b)) ∧ W' = W := by
  unfold twoF
  cases h : ok2 w a b with
  | false => rw [if_neg (by decide)]; exact rtwo_bad op w a b ha hb h W
  | true =>
    obtain ⟨n, rfl, hn, ha', hb'⟩ := of_ok2 ha hb h
    rw [if_pos rfl]
    exact RTwo_calls hn op a b ho ha' hb' W

theorem One_full (op w a : Int) (ho : 0 ≤ op) (ha : 0 ≤ a) (W : World) (hT : Tabs W) :
    Calls Tryd.prog 12 #[.int .u8 op, .int .i64 w, .int .u64 a] W fun e W' => e = .returned (pairV (oneF op w a)) ∧ Below W.heap.size W W' := by
  unfold oneF
  cases h : ok1 w a with
  | false => rw [if_neg (by decide)]; exact one_bad op w a h W hT
  | true =>
    obtain ⟨n, rfl, hn, ha'⟩ := of_ok1 ha h
    rw [if_pos rfl]
    exact One_calls hn op a ho ha' W hT

theorem ROne_full (op w a : Int) (ho : 0 ≤ op) (ha : 0 ≤ a) (W : World) :
    Calls Tryd.prog 13 #[.int .u8 op, .int .i64 w, .int .u64 a] W fun e W' => e = .returned (pairV (oneF op w a)) ∧ W' = W := by
  unfold oneF
  cases h : ok1 w a with
  | false => rw [if_neg (by decide)]; exact rone_bad op w a ha h W
  | true =>
    obtain ⟨n, rfl, hn, ha'⟩ := of_ok1 ha h
    rw [if_pos rfl]
    exact ROne_calls hn op a ho ha' W

theorem Than_full (op w a b : Int) (ho : 0 ≤ op) (ha : 0 ≤ a) (hb : 0 ≤ b) (W : World) (hT : Tabs W) :
    Calls Tryd.prog 14 #[.int .u8 op, .int .i64 w, .int .u64 a, .int .u64 b] W fun e W' => e = .returned (pairB (thanF op w a b)) ∧ Below W.heap.size W W' := by
  unfold thanF
  cases h : ok2 w a b with
  | false => rw [if_neg (by decide)]; exact than_bad op w a b h W hT
  | true =>
    obtain ⟨n, rfl, hn, ha', hb'⟩ := of_ok2 ha hb h
    rw [if_pos rfl]
    exact Than_calls hn op a b ho ha' hb' W hT

theorem RThan_full (op w a b : Int) (ho : 0 ≤ op) (ha : 0 ≤ a) (hb : 0 ≤ b) (W : World) :
    Calls Tryd.prog 15 #[.int .u8 op, .int .i64 w, .int .u64 a, .int .u64 b] W fun e W' => e = .returned (pairB (thanF op w a b)) ∧ W' = W := by
  unfold thanF
  cases h : ok2 w a b with
  | false => rw [if_neg (by decide)]; exact rthan_bad op w a b h W
  | true =>
    obtain ⟨n, rfl, hn, ha', hb'⟩ := of_ok2 ha hb h
    rw [if_pos rfl]
    exact RThan_calls hn op a b ho ha' hb' W

/-! works -/

theorem w1_is : two 6 32 4294967289 2 = (4294967293, 0) := by decide +kernel
theorem w2_is : two 6 32 2147483648 4294967295 = (0, 6) := by decide +kernel
theorem w3_is : one 26 64 1 = (63, 0) := by decide +kernel

set_option maxRecDepth 100000 in
set_option maxHeartbeats 1000000 in
theorem works_calls {W0 : World} (hT : Tabs W0) (W : World) (hB : Below W0.heap.size W0 W) :
    Calls Tryd.prog 11 #[] W fun e W' => e = .returned (.bool true) ∧ Below W0.heap.size W0 W' := by
  have h32 : IsW 32 := by simp [IsW]
  have h64 : IsW 64 := by simp [IsW]
  have C1 : ∀ W, Below W0.heap.size W0 W → Calls Tryd.prog 9 #[.int .u8 6, .int .i64 32, .int .u64 4294967289, .int .u64 2] W fun e W' => e = .returned (.tuple #[.int .u64 4294967293, .int .i64 0]) ∧ Below W0.heap.size W0 W' := fun W hB => by
    have h := Two_calls h32 6 4294967289 2 (by decide) ⟨by decide, by decide⟩ ⟨by decide, by decide⟩ W (hT.later hB)
    rw [show (6 : Int).toNat = 6 from rfl, w1_is] at h
    exact h.mono fun e W' ⟨he, hk⟩ => ⟨he, below_from hB hk⟩
  have C2 : ∀ W, Below W0.heap.size W0 W → Calls Tryd.prog 9 #[.int .u8 6, .int .i64 32, .int .u64 2147483648, .int .u64 4294967295] W fun e W' => e = .returned (.tuple #[.int .u64 0, .int .i64 6]) ∧ Below W0.heap.size W0 W' := fun W hB => by
    have h := Two_calls h32 6 2147483648 4294967295 (by decide) ⟨by decide, by decide⟩ ⟨by decide, by decide⟩ W (hT.later hB)
    rw [show (6 : Int).toNat = 6 from rfl, w2_is] at h
    exact h.mono fun e W' ⟨he, hk⟩ => ⟨he, below_from hB hk⟩
  have C3 : ∀ W, Below W0.heap.size W0 W → Calls Tryd.prog 12 #[.int .u8 26, .int .i64 64, .int .u64 1] W fun e W' => e = .returned (.tuple #[.int .u64 63, .int .i64 0]) ∧ Below W0.heap.size W0 W' := fun W hB => by
    have h := One_calls h64 26 1 (by decide) ⟨by decide, by decide⟩ W (hT.later hB)
    rw [show (26 : Int).toNat = 26 from rfl, w3_is] at h
    exact h.mono fun e W' ⟨he, hk⟩ => ⟨he, below_from hB hk⟩
  have C1 := hide C1
  have C2 := hide C2
  have C3 := hide C3
  have HB := hide hB
  clear hB hT
  go_enter Tryd.func11, Tryd.ntmps11
  go_wp2_with (first | (with_reducible refine (C1.out _ HB.out).mono ?_; rintro e w1 ⟨rfl, hb⟩; have HB := hide hb; clear hb) | (with_reducible refine (C2.out _ HB.out).mono ?_; rintro e w1 ⟨rfl, hb⟩; have HB := hide hb; clear hb) | (with_reducible refine (C3.out _ HB.out).mono ?_; rintro e w1 ⟨rfl, hb⟩; have HB := hide hb; clear hb))
  go_ret
  exact ⟨rfl, HB.out⟩

set_option maxRecDepth 100000 in
set_option maxHeartbeats 1000000 in
theorem IntsTwo_calls (op w a b : Int) (ho : 0 ≤ op) (ha : 0 ≤ a) (hb : 0 ≤ b) (W : World) (hT : Tabs W) :
    Calls Tryd.prog 3 #[.int .u8 op, .int .i64 w, .int .u64 a, .int .u64 b] W fun e W' => e = .returned (.bool true) ∧ Below W.heap.size W W' := by
  have C := Two_full op w a b ho ha hb W hT
  have R := RTwo_full op w a b ho ha hb
  simp only [pairV] at C R
  generalize (twoF op w a b).1 = x at *
  generalize (twoF op w a b).2 = y at *
  have C := hide C
  have R := hide R
  have K := hide (works_calls hT)
  clear hT ho ha hb
  go_enter Tryd.func3, Tryd.ntmps3
  go_wp2_with (first | (with_reducible refine C.out.mono ?_; rintro e w1 ⟨rfl, hb⟩; have HB := hide hb; clear hb) | (with_reducible refine (R.out _).mono ?_; rintro e w1 ⟨rfl, rfl⟩) | (with_reducible refine (K.out _ HB.out).mono ?_; rintro e w1 ⟨rfl, hb⟩; have HB := hide hb; clear hb))
  go_ret
  exact ⟨rfl, HB.out⟩

set_option maxRecDepth 100000 in
set_option maxHeartbeats 1000000 in
theorem IntsOne_calls (op w a : Int) (ho : 0 ≤ op) (ha : 0 ≤ a) (W : World) (hT : Tabs W) :
    Calls Tryd.prog 4 #[.int .u8 op, .int .i64 w, .int .u64 a] W fun e W' => e = .returned (.bool true) ∧ Below W.heap.size W W' := by
  have C := One_full op w a ho ha W hT
  have R := ROne_full op w a ho ha
  simp only [pairV] at C R
  generalize (oneF op w a).1 = x at *
  generalize (oneF op w a).2 = y at *
  have C := hide C
  have R := hide R
  have K := hide (works_calls hT)
  clear hT ho ha
  go_enter Tryd.func4, Tryd.ntmps4
  go_wp2_with (first | (with_reducible refine C.out.mono ?_; rintro e w1 ⟨rfl, hb⟩; have HB := hide hb; clear hb) | (with_reducible refine (R.out _).mono ?_; rintro e w1 ⟨rfl, rfl⟩) | (with_reducible refine (K.out _ HB.out).mono ?_; rintro e w1 ⟨rfl, hb⟩; have HB := hide hb; clear hb))
  go_ret
  exact ⟨rfl, HB.out⟩

set_option maxRecDepth 100000 in
set_option maxHeartbeats 1000000 in
theorem IntsThan_calls (op w a b : Int) (ho : 0 ≤ op) (ha : 0 ≤ a) (hb : 0 ≤ b) (W : World) (hT : Tabs W) :
    Calls Tryd.prog 5 #[.int .u8 op, .int .i64 w, .int .u64 a, .int .u64 b] W fun e W' => e = .returned (.bool true) ∧ Below W.heap.size W W' := by
  have C := Than_full op w a b ho ha hb W hT
  have R := RThan_full op w a b ho ha hb
  simp only [pairB] at C R
  generalize (thanF op w a b).1 = x at *
  generalize (thanF op w a b).2 = y at *
  have C := hide C
  have R := hide R
  have K := hide (works_calls hT)
  clear hT ho ha hb
  cases x
  all_goals
    go_enter Tryd.func5, Tryd.ntmps5
    go_wp2_with (first | (with_reducible refine C.out.mono ?_; rintro e w1 ⟨rfl, hb⟩; have HB := hide hb; clear hb) | (with_reducible refine (R.out _).mono ?_; rintro e w1 ⟨rfl, rfl⟩) | (with_reducible refine (K.out _ HB.out).mono ?_; rintro e w1 ⟨rfl, hb⟩; have HB := hide hb; clear hb))
    go_ret
    exact ⟨rfl, HB.out⟩

set_option maxRecDepth 100000 in
set_option maxHeartbeats 1000000 in
theorem IntsWidths_calls (f t : Int) (s : Bool) (a : Int) (ha : 0 ≤ a) (W : World) (hT : Tabs W) :
    Calls Tryd.prog 6 #[.int .i64 f, .int .i64 t, .bool s, .int .u64 a] W fun e W' => e = .returned (.bool true) ∧ Below W.heap.size W W' := by
  have C : ∀ W1, Below W.heap.size W W1 → Calls Tryd.prog 16 #[.int .i64 f, .int .i64 t, .bool s, .int .u64 a] W1 fun e W' => e = .returned (pairV (ext f t s a)) ∧ Below W.heap.size W W' := fun W1 hB =>
    (Extend_calls f t s a ha W1 (hT.later hB)).mono fun e W' ⟨he, hk⟩ => ⟨he, below_from hB hk⟩
  have D : ∀ W1, Below W.heap.size W W1 → Calls Tryd.prog 18 #[.int .i64 f, .int .i64 t, .bool s, .int .u64 a] W1 fun e W' => e = .returned (pairV (nar f t s a)) ∧ Below W.heap.size W W' := fun W1 hB =>
    (Narrow_calls f t s a ha W1 (hT.later hB)).mono fun e W' ⟨he, hk⟩ => ⟨he, below_from hB hk⟩
  have R := RExtend_calls f t s a ha
  have Q := RNarrow_calls f t s a ha
  simp only [pairV] at C D R Q
  generalize (ext f t s a).1 = x at *
  generalize (ext f t s a).2 = y at *
  generalize (nar f t s a).1 = u at *
  generalize (nar f t s a).2 = v at *
  have C := hide C
  have D := hide D
  have R := hide R
  have Q := hide Q
  have K := hide (works_calls hT)
  have HB := hide (Below.refl W.heap.size W)
  clear hT ha
  go_enter Tryd.func6, Tryd.ntmps6
  go_wp2_with (first | (with_reducible refine (C.out _ HB.out).mono ?_; rintro e w1 ⟨rfl, hb⟩; have HB := hide hb; clear hb) | (with_reducible refine (D.out _ HB.out).mono ?_; rintro e w1 ⟨rfl, hb⟩; have HB := hide hb; clear hb) | (with_reducible refine (R.out _).mono ?_; rintro e w1 ⟨rfl, rfl⟩) | (with_reducible refine (Q.out _).mono ?_; rintro e w1 ⟨rfl, rfl⟩) | (with_reducible refine (K.out _ HB.out).mono ?_; rintro e w1 ⟨rfl, hb⟩; have HB := hide hb; clear hb))
  go_ret
  exact ⟨rfl, HB.out⟩
end Go.Proofs.YtlpjkmobmpcfiaaDoor
