/-
  The contracts in the laws form; works; FloatsTwo, FloatsOne, FloatsThan (genflo.py wrote it).
-/
import Derived.Test.YtpeckiaimellmaaDoorFFloROneP
import Derived.Test.YtpeckiaimellmaaDoorFFloThanP
import Derived.DataShut
set_option linter.unusedVariables false
set_option linter.unusedSimpArgs false
namespace Go.Proofs.YtpeckiaimellmaaDoor.F
open Go.RowKit Flo

theorem wf_nat {k : IntKind} {n : Int} (h0 : 0 ≤ n) : ∃ m : Nat, n = (m : Int) := ⟨n.toNat, by omega⟩
theorem wf8 {n : Int} (h : (Lit.int .u8 n).wf = true) : ∃ m : Nat, n = (m : Int) := ⟨n.toNat, by have : 0 ≤ n := ((Lit.wf_int_iff _ _).1 h).1; omega⟩
theorem wf64 {n : Int} (h : (Lit.int .u64 n).wf = true) : ∃ m : Nat, n = (m : Int) ∧ m < 2 ^ 64 := by
  have h0 : 0 ≤ n := ((Lit.wf_int_iff _ _).1 h).1
  have h1 : n ≤ 18446744073709551615 := ((Lit.wf_int_iff _ _).1 h).2
  exact ⟨n.toNat, by omega, by omega⟩

def twoF (op : Nat) (w : Int) (a b : Nat) : Nat × Nat := if okW w a && okW w b then two op w.toNat a b else (0, 2)
def oneF (op : Nat) (w : Int) (a : Nat) : Nat × Nat := if okW w a then one op w.toNat a else (0, 2)
def thanF (op : Nat) (w : Int) (a b : Nat) : Bool × Nat := if okW w a && okW w b then than op w.toNat a b else (false, 2)
def noneF (w : Int) (a : Nat) : Bool × Nat := if okW w a then (na w.toNat a, 0) else (false, 2)

theorem ok_both {w : Int} {a b : Nat} (ha : a < 2 ^ 64) (hb : b < 2 ^ 64) (h : (okW w a && okW w b) = true) : ∃ n : Nat, w = n ∧ IsW n ∧ a < 2 ^ n ∧ b < 2 ^ n := by
  rw [Bool.and_eq_true] at h
  obtain ⟨n, rfl, hn, h1⟩ := of_okW ha h.1
  obtain ⟨m, hm, _, h2⟩ := of_okW hb h.2
  have : n = m := by omega
  subst this
  exact ⟨n, rfl, hn, h1, h2⟩
theorem below_same {W0 W W' : World} (h : Below W0.heap.size W0 W) (e : W' = W) : Below W0.heap.size W0 W' := by rw [e]; exact h

theorem Two_full {W0 : World} (op : Nat) (w : Int) (a b : Nat) (ha : a < 2 ^ 64) (hb : b < 2 ^ 64) (W : World) (hB : Below W0.heap.size W0 W) :
    Calls Tryd.prog 28 #[.int .u8 (op : Int), .int .i64 w, .int .u64 (a : Int), .int .u64 (b : Int)] W fun e W' => e = .returned (pairV (twoF op w a b)) ∧ Below W0.heap.size W0 W' := by
  unfold twoF
  cases h : (okW w a && okW w b) with
  | false =>
    rw [if_neg (by decide)]
    exact (two_bad op w a b h W).mono fun e W' h => ⟨h.1, below_two hB h.2⟩
  | true =>
    obtain ⟨n, rfl, hn, ha', hb'⟩ := ok_both ha hb h
    rw [if_pos rfl, show ((n : Int)).toNat = n from Int.toNat_natCast n]
    exact (Two_calls hn op ha' hb' W).mono fun e W' h => ⟨h.1, below_two hB h.2⟩
theorem RTwo_full {W0 : World} (op : Nat) (w : Int) (a b : Nat) (ha : a < 2 ^ 64) (hb : b < 2 ^ 64) (W : World) (hB : Below W0.heap.size W0 W) :
    Calls Tryd.prog 31 #[.int .u8 (op : Int), .int .i64 w, .int .u64 (a : Int), .int .u64 (b : Int)] W fun e W' => e = .returned (pairV (twoF op w a b)) ∧ Below W0.heap.size W0 W' := by
  unfold twoF
  cases h : (okW w a && okW w b) with
  | false =>
    rw [if_neg (by decide)]
    exact ((rtwo_bad op w a b h W)).mono fun e W' h => ⟨h.1, below_two hB (by rw [h.2]; exact Below.refl _ _)⟩
  | true =>
    obtain ⟨n, rfl, hn, ha', hb'⟩ := ok_both ha hb h
    rw [if_pos rfl, show ((n : Int)).toNat = n from Int.toNat_natCast n]
    exact (RTwo_calls hn op ha' hb' W).mono fun e W' h => ⟨h.1, below_two hB h.2⟩
theorem Than_full {W0 : World} (op : Nat) (w : Int) (a b : Nat) (ha : a < 2 ^ 64) (hb : b < 2 ^ 64) (W : World) (hB : Below W0.heap.size W0 W) :
    Calls Tryd.prog 39 #[.int .u8 (op : Int), .int .i64 w, .int .u64 (a : Int), .int .u64 (b : Int)] W fun e W' => e = .returned (pairB (thanF op w a b)) ∧ Below W0.heap.size W0 W' := by
  unfold thanF
  cases h : (okW w a && okW w b) with
  | false =>
    rw [if_neg (by decide)]
    exact (than_bad op w a b h W).mono fun e W' h => ⟨h.1, below_two hB h.2⟩
  | true =>
    obtain ⟨n, rfl, hn, ha', hb'⟩ := ok_both ha hb h
    rw [if_pos rfl, show ((n : Int)).toNat = n from Int.toNat_natCast n]
    exact (Than_calls hn op ha' hb' W).mono fun e W' h => ⟨h.1, below_two hB h.2⟩
theorem RThan_full {W0 : World} (op : Nat) (w : Int) (a b : Nat) (ha : a < 2 ^ 64) (hb : b < 2 ^ 64) (W : World) (hB : Below W0.heap.size W0 W) :
    Calls Tryd.prog 40 #[.int .u8 (op : Int), .int .i64 w, .int .u64 (a : Int), .int .u64 (b : Int)] W fun e W' => e = .returned (pairB (thanF op w a b)) ∧ Below W0.heap.size W0 W' := by
  unfold thanF
  cases h : (okW w a && okW w b) with
  | false =>
    rw [if_neg (by decide)]
    exact ((rthan_bad op w a b h W)).mono fun e W' h => ⟨h.1, below_two hB (by rw [h.2]; exact Below.refl _ _)⟩
  | true =>
    obtain ⟨n, rfl, hn, ha', hb'⟩ := ok_both ha hb h
    rw [if_pos rfl, show ((n : Int)).toNat = n from Int.toNat_natCast n]
    exact ((RThan_calls hn ha' hb' op W)).mono fun e W' h => ⟨h.1, below_two hB (by rw [h.2]; exact Below.refl _ _)⟩
theorem One_full {W0 : World} (op : Nat) (w : Int) (a : Nat) (ha : a < 2 ^ 64) (W : World) (hB : Below W0.heap.size W0 W) :
    Calls Tryd.prog 36 #[.int .u8 (op : Int), .int .i64 w, .int .u64 (a : Int)] W fun e W' => e = .returned (pairV (oneF op w a)) ∧ Below W0.heap.size W0 W' := by
  unfold oneF
  cases h : okW w a with
  | false =>
    rw [if_neg (by decide)]
    exact (one_bad op w a h W).mono fun e W' h => ⟨h.1, below_two hB h.2⟩
  | true =>
    obtain ⟨n, rfl, hn, ha'⟩ := of_okW ha h
    rw [if_pos rfl, show ((n : Int)).toNat = n from Int.toNat_natCast n]
    exact (One_calls hn op ha' W).mono fun e W' h => ⟨h.1, below_two hB h.2⟩
theorem ROne_full {W0 : World} (op : Nat) (w : Int) (a : Nat) (ha : a < 2 ^ 64) (W : World) (hB : Below W0.heap.size W0 W) :
    Calls Tryd.prog 37 #[.int .u8 (op : Int), .int .i64 w, .int .u64 (a : Int)] W fun e W' => e = .returned (pairV (oneF op w a)) ∧ Below W0.heap.size W0 W' := by
  unfold oneF
  cases h : okW w a with
  | false =>
    rw [if_neg (by decide)]
    exact ((rone_bad op w a h W)).mono fun e W' h => ⟨h.1, below_two hB (by rw [h.2]; exact Below.refl _ _)⟩
  | true =>
    obtain ⟨n, rfl, hn, ha'⟩ := of_okW ha h
    rw [if_pos rfl, show ((n : Int)).toNat = n from Int.toNat_natCast n]
    exact (ROne_calls hn ha' op W).mono fun e W' h => ⟨h.1, below_two hB h.2⟩
theorem None_full {W0 : World} (w : Int) (a : Nat) (ha : a < 2 ^ 64) (W : World) (hB : Below W0.heap.size W0 W) :
    Calls Tryd.prog 103 #[.int .i64 w, .int .u64 (a : Int)] W fun e W' => e = .returned (pairB (noneF w a)) ∧ Below W0.heap.size W0 W' :=
  (None_calls w a ha W).mono fun e W' h => ⟨h.1, below_two hB h.2⟩
theorem w1_is : two 1 32 1065353217 864026624 = (1065353218, 0) := by decide +kernel
theorem w2_is : two 4 64 0 0 = (9221120237041090560, 0) := by decide +kernel

end Go.Proofs.YtpeckiaimellmaaDoor.F
