/-
  floats.Than, operator by operator; floats.None (genflo.py wrote it).
-/
import Derived.Test.YtfahogbiekmdfaaFloTwo
set_option linter.unusedVariables false
set_option linter.unusedSimpArgs false
namespace Go.Proofs.Ytfahogbiekmdfaa
open Go.RowKit Flo

theorem than_none {op w a b : Nat} (h : op < 17 ∨ 22 < op) : than op w a b = (false, 2) := by
  unfold than
  split <;> first | omega | rfl

theorem fit1b (w : Int) (a : Nat) (W : World) :
    Calls Try.prog 40 #[.int .i64 w, .slice (some ⟨W.heap.size, 0, none⟩) 1 1] (W.alloc (.cells #[.int .u64 (a : Int)] 22)) fun e W' => e = .returned (.bool (okW w a)) ∧ Below W.heap.size W W' :=
  (fit1 w a W).mono fun e W' h => ⟨h.1, by rw [h.2]; exact below_one ..⟩

set_option maxRecDepth 100000 in
set_option maxHeartbeats 1000000 in
theorem None_calls (w : Int) (a : Nat) (h64 : a < 2 ^ 64) (W : World) :
    Calls Try.prog 22 #[.int .i64 w, .int .u64 (a : Int)] W fun e W' => e = .returned (pairB (if okW w a then (na w.toNat a, 0) else (false, 2))) ∧ Below W.heap.size W W' := by
  have F := fit1b w a W
  have HB := hide (below_one W (.cells #[.int .u64 (a : Int)] 22))
  cases h : okW w a with
  | false =>
    rw [h] at F
    have F := hide F
    clear h
    go_enter Try.func22, Try.ntmps22
    go_wp2_with ((with_reducible refine F.out.mono ?_); rintro e w1 ⟨rfl, hb⟩; have HB := hide hb; clear hb)
    refine bodyPost_ret (v := .tuple #[.bool false, .int .i64 2]) (by simp [results, Try.results22, go_sem]) rfl ?_
    exact ⟨rfl, HB.out⟩
  | true =>
    obtain ⟨n, rfl, hn, ha⟩ := of_okW h64 h
    rw [h] at F
    have F := hide F
    have N := hide (noNumber_calls hn)
    have A := hide (ask_calls hn ha)
    rw [show ((n : Int)).toNat = n from Int.toNat_natCast n]
    clear h ha hn h64
    generalize na n a = r at *
    go_enter Try.func22, Try.ntmps22
    go_wp2_with (first | ((with_reducible refine F.out.mono ?_); rintro e w1 ⟨rfl, hb⟩; have HB := hide hb; clear hb) | ((with_reducible refine (N.out _).mono ?_); rintro e w1 ⟨rfl, h0, h1, hb⟩; have H0 := hide h0; have H1 := hide h1; have HB := hide (below_two HB.out hb); clear h0 h1 hb) | ((with_reducible refine (A.out _ _ _ H0.out H1.out).mono ?_); rintro e w1 ⟨rfl, rfl⟩))
    refine bodyPost_ret (v := .tuple #[.bool r, .int .i64 0]) (by simp [results, Try.results22, go_sem]) rfl ?_
    exact ⟨rfl, HB.out⟩
end Go.Proofs.Ytfahogbiekmdfaa
