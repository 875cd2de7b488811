/-
  The walk of the law 'LebShort'.
-/
import Derived.Test.YtbhihlahnllpgaaRefPuts
import Derived.Test.YtbhihlahnllpgaaRefSame
namespace Go.Proofs.Ytbhihlahnllpgaa
open Go.RowKit
set_option linter.unusedVariables false

theorem PutPost.row {l : List Int} {w w' : World} {e : Ending} (h : PutPost l w e w') (h1 : 1 ≤ l.length) (hb : Leb.Bytes l) :
    ∃ a cap, e = .returned (.slice a l.length cap) ∧ Row w' a l.length cap l ∧ Below w.heap.size w w' := by
  obtain ⟨v, rfl, hown, hbel⟩ := h
  obtain ⟨g, cap, rfl, _, hr⟩ := own_slice hown h1 hb
  exact ⟨_, cap, rfl, hr, hbel⟩

theorem refPutU_row (n : Int) (w : World) (h0 : 0 ≤ n) (h1 : n < 18446744073709551616) :
    Calls Try.prog 17 #[.int .u64 n] w fun e w' => ∃ a cap, e = .returned (.slice a (Leb.putU n).length cap) ∧ Row w' a (Leb.putU n).length cap (Leb.putU n) ∧ Below w.heap.size w w' := by
  have h2 : n < 128 ^ (9 + 1) := Int.lt_trans h1 (by decide)
  exact (refPutU_calls 9 n w h0 h2 (by omega) (by decide)).mono fun e w' h => h.row (putU_len n).1 (Leb.putUF_bytes 9 n h0 h2)

theorem refPutS_row (n : Int) (w : World) (h0 : -9223372036854775808 ≤ n) (h1 : n < 9223372036854775808) :
    Calls Try.prog 18 #[.int .i64 n] w fun e w' => ∃ a cap, e = .returned (.slice a (Leb.putS n).length cap) ∧ Row w' a (Leb.putS n).length cap (Leb.putS n) ∧ Below w.heap.size w w' := by
  exact (refPutS_calls 9 n w (Int.le_trans (by decide) h0) (Int.lt_trans h1 (by decide)) h0 (by omega) (by decide)).mono fun e w' h => h.row (putS_len n).1 (Leb.putSF_bytes 9 n)

set_option maxHeartbeats 1000000 in
theorem short_calls (n m : Int) (w : World) (h0 : 0 ≤ n) (h1 : n < 18446744073709551616) (g0 : -9223372036854775808 ≤ m) (g1 : m < 9223372036854775808) :
    Calls Try.prog 5 #[.int .u64 n, .int .i64 m] w fun e w' => e = .returned (.bool true) ∧ Below w.heap.size w w' := by
  have C1 := hide (fun w => PutU_calls n w h0 h1)
  have C2 := hide (fun w => PutS_calls m w g0 g1)
  have C3 := hide (fun w => refPutU_row n w h0 h1)
  have C4 := hide (fun w => refPutS_row m w g0 g1)
  have C5 := hide (fun w => LenU_walk n w h0 h1)
  have hl1 := (putU_len n).2
  have hl2 := (putS_len m).2
  clear h0 h1 g0 g1
  go_enter Try.func5, Try.ntmps5
  go_wp2_with fail
  refine (C1.out _).mono ?_
  rintro e w1 ⟨ga, ca, rfl, _, ra, _, b1⟩
  have Ra := hide ra
  have B1 := hide b1
  clear ra b1
  go_wp2_with fail
  refine (C2.out _).mono ?_
  rintro e w2 ⟨gb, cb, rfl, _, rb, _, b2⟩
  have Rb := hide rb
  have B2 := hide b2
  clear rb b2
  go_wp2_with fail
  refine (C3.out _).mono ?_
  rintro e w3 ⟨ac, cc, rfl, rc, b3⟩
  have Rc := hide rc
  have B3 := hide b3
  clear rc b3
  go_wp2_with fail
  refine (same_calls' _ _ _ _ _ _ w3 ((Ra.out.later B2.out).later B3.out) Rc.out).mono ?_
  rintro e w4 ⟨rfl, n1, rfl⟩
  go_wp2_with fail
  refine (C4.out _).mono ?_
  rintro e w5 ⟨ad, cd, rfl, rd, b5⟩
  have Rd := hide rd
  have B5 := hide b5
  clear rd b5
  go_wp2_with fail
  refine (same_calls' _ _ _ _ _ _ w5 (((Rb.out.later B3.out).drewN n1).later B5.out) Rd.out).mono ?_
  rintro e w6 ⟨rfl, n2, rfl⟩
  go_wp2_with fail
  refine (C5.out _).mono ?_
  rintro e w7 ⟨rfl, rfl⟩
  go_wp2_with (go_at_call 11; refine (works_calls _).mono ?_; rintro e w8 ⟨rfl, hb⟩)
  go_ret
  have z1 := B1.out.size
  have z2 := B2.out.size
  have z3 := B3.out.size
  have z5 := B5.out.size
  exact ⟨rfl, B1.out.trans ((B2.out.mono z1).trans ((B3.out.mono (Nat.le_trans z1 z2)).trans ((below_drewN (Below.refl _ _) _).trans ((B5.out.mono (Nat.le_trans z1 (Nat.le_trans z2 z3))).trans ((below_drewN (Below.refl _ _) _).trans (hb.mono (Nat.le_trans z1 (Nat.le_trans z2 (Nat.le_trans z3 z5)))))))))⟩
end Go.Proofs.Ytbhihlahnllpgaa
