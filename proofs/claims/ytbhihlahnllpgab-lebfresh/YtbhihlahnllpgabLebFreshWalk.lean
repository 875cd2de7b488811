/-
  The walk of the law 'LebFresh'.
-/
import Derived.Test.YtbhihlahnllpgabFreshParts
import Derived.Test.YtbhihlahnllpgabRefPuts
namespace Go.Proofs.Ytbhihlahnllpgab
open Go.RowKit
set_option linter.unusedVariables false

theorem PutPost.row {l : List Int} {w w' : World} {e : Ending} (h : PutPost l w e w') (h1 : 1 ≤ l.length) (hb : Leb.Bytes l) :
    ∃ a cap, e = .returned (.slice a l.length cap) ∧ Row w' a l.length cap l ∧ Below w.heap.size w w' := by
  obtain ⟨v, rfl, hown, hbel⟩ := h
  obtain ⟨g, cap, rfl, _, hr⟩ := own_slice hown h1 hb
  exact ⟨_, cap, rfl, hr, hbel⟩

theorem refPutU_row (n : Int) (w : World) (h0 : 0 ≤ n) (h1 : n < 18446744073709551616) :
    Calls Try.prog 15 #[.int .u64 n] w fun e w' => ∃ a cap, e = .returned (.slice a (Leb.putU n).length cap) ∧ Row w' a (Leb.putU n).length cap (Leb.putU n) ∧ Below w.heap.size w w' := by
  have h2 : n < 128 ^ (9 + 1) := Int.lt_trans h1 (by decide)
  exact (refPutU_calls 9 n w h0 h2 (by omega) (by decide)).mono fun e w' h => h.row (putU_len n).1 (Leb.putUF_bytes 9 n h0 h2)

theorem refPutS_row (n : Int) (w : World) (h0 : -9223372036854775808 ≤ n) (h1 : n < 9223372036854775808) :
    Calls Try.prog 16 #[.int .i64 n] w fun e w' => ∃ a cap, e = .returned (.slice a (Leb.putS n).length cap) ∧ Row w' a (Leb.putS n).length cap (Leb.putS n) ∧ Below w.heap.size w w' := by
  exact (refPutS_calls 9 n w (Int.le_trans (by decide) h0) (Int.lt_trans h1 (by decide)) h0 (by omega) (by decide)).mono fun e w' h => h.row (putS_len n).1 (Leb.putSF_bytes 9 n)

/-- A row of the call's own, spoilt: nothing below it has changed. -/
theorem spoil_own {w : World} {base : Nat} {v : Value} {l : List Int} (h : OwnI w base 5 .u8 v l) (hl : 1 ≤ l.length) :
    Calls Try.prog 11 #[v, .int .u8 1] w fun e w' => e = .returned (.tuple #[]) ∧ Below base w w' := by
  rcases h with ⟨rfl, rfl⟩ | ⟨g, cap, zs, rfl, hb, hg, h1, h2, h3, h4, h5⟩
  · simp at hl
  · exact Spoil_walk g l.length cap base zs w h1 (by unfold maxLen at h2; omega) h3 h5 hg hb

set_option maxHeartbeats 1000000 in
theorem fresh_calls (a : Option Addr) (cap : Nat) (l : List Int) (p wd n : Int) (w : World) (H : Row w a l.length cap l) (hr : l.length ≤ 140737488351232) (h0 : 0 ≤ n) (h1 : n < 18446744073709551616) :
    Calls Try.prog 5 #[.slice a l.length cap, .int .i64 p, .int .i64 wd, .int .u64 n] w fun e w' => e = .returned (.bool true) ∧ Below w.heap.size w w' := by
  have m0 : -9223372036854775808 ≤ wrap64 n := by unfold wrap64; omega
  have m1 : wrap64 n < 9223372036854775808 := by unfold wrap64; omega
  have CW := hide (Wide_walk a cap l w H hr)
  have C1 := hide (fun w => PutU_walkI n w h0 h1)
  have C2 := hide (fun w => PutS_walkI (wrap64 n) w m0 m1)
  have C3 := hide (fun w => PutU_calls n w h0 h1)
  have C4 := hide (fun w => PutS_calls (wrap64 n) w m0 m1)
  have C5 := hide (fun w => refPutU_row n w h0 h1)
  have C6 := hide (fun w => refPutS_row (wrap64 n) w m0 m1)
  have HH := hide H
  clear H h0 h1 m0 m1
  go_enter Try.func5, Try.ntmps5
  go_wp2_with fail
  refine CW.out.mono ?_
  rintro e w1 ⟨rfl, hblk, hbel⟩
  have hz : w.heap.size < w1.heap.size := by
    have := Array.getElem?_eq_some_iff.mp hblk
    exact this.1
  have hrow := row_wide HH.out.2.2.2.1 hr hblk
  have BK := hide hblk
  have B1 := hide hbel
  have RW := hide hrow
  clear hblk hbel hrow
  go_wp2_with fail
  refine (U_calls _ _ _ _ p wd w1 RW.out).mono ?_
  rintro e w2 ⟨rfl, k1, rfl⟩
  go_wp2_with fail
  refine (S_calls _ _ _ _ p wd _ (RW.out.drewN k1)).mono ?_
  rintro e w2 ⟨rfl, k2, rfl⟩
  go_wp2_with fail
  refine (C1.out _).mono ?_
  rintro e w2 ⟨v2, rfl, own2, bel2⟩
  have O2 := hide own2
  have B2 : Hid (Below w1.heap.size w1 w2) := (below_drewN (Below.refl _ _) _).trans bel2
  clear own2 bel2
  go_wp2_with fail
  refine (spoil_own O2.out (putU_len n).1).mono ?_
  rintro e w3 ⟨rfl, bel3⟩
  have B3 : Hid (Below w1.heap.size w1 w3) := B2.out.trans bel3
  clear bel3 O2 B2
  go_wp2_with fail
  refine (C2.out _).mono ?_
  rintro e w4 ⟨v4, rfl, own4, bel4⟩
  have O4 := hide (own4.mono B3.out.size)
  have B4 : Hid (Below w1.heap.size w1 w4) := B3.out.trans (bel4.mono B3.out.size)
  clear own4 bel4 B3
  go_wp2_with fail
  refine (spoil_own O4.out (putS_len _).1).mono ?_
  rintro e w5 ⟨rfl, bel5⟩
  have B5 : Hid (Below w1.heap.size w1 w5) := B4.out.trans bel5
  clear bel5 O4 B4
  have hblk5 : w5.heap[w.heap.size]? = some (.cells ((l ++ [7, 7, 7]).map (Value.int .u8)).toArray 5 (0, 0)) := by rw [B5.out.block _ hz]; exact BK.out
  have bel05 : Below w.heap.size w w5 := B1.out.trans (B5.out.mono (Nat.le_of_lt hz))
  have CL := hide (Left_walk a cap w.heap.size l w5 (HH.out.later bel05) hr hblk5)
  have B05 := hide bel05
  clear hblk5 bel05 B5 B1 BK RW
  go_wp2_with fail
  refine CL.out.mono ?_
  rintro e w6 ⟨rfl, k6, rfl⟩
  go_wp2_with fail
  refine (C3.out _).mono ?_
  rintro e w6 ⟨g6, c6, rfl, _, r6, _, bel6⟩
  have R6 := hide r6
  have B6 : Hid (Below w.heap.size w w6) := B05.out.trans ((below_drewN (Below.refl _ _) _).trans (bel6.mono B05.out.size))
  clear r6 bel6
  go_wp2_with fail
  refine (C5.out _).mono ?_
  rintro e w7 ⟨a7, c7, rfl, r7, bel7⟩
  have R7 := hide r7
  have R67 := hide (R6.out.later bel7)
  have B7 : Hid (Below w.heap.size w w7) := B6.out.trans (bel7.mono B6.out.size)
  clear r7 bel7 B6 R6
  go_wp2_with fail
  refine (same_calls' _ _ _ _ _ _ w7 R67.out R7.out).mono ?_
  rintro e w8 ⟨rfl, k8, rfl⟩
  go_wp2_with fail
  refine (C4.out _).mono ?_
  rintro e w8 ⟨g8, c8, rfl, _, r8, _, bel8⟩
  have R8 := hide r8
  have B8 : Hid (Below w.heap.size w w8) := B7.out.trans ((below_drewN (Below.refl _ _) _).trans (bel8.mono B7.out.size))
  clear r8 bel8 B7
  go_wp2_with fail
  refine (C6.out _).mono ?_
  rintro e w9 ⟨a9, c9, rfl, r9, bel9⟩
  have R9 := hide r9
  have R89 := hide (R8.out.later bel9)
  have B9 : Hid (Below w.heap.size w w9) := B8.out.trans (bel9.mono B8.out.size)
  clear r9 bel9 B8 R8
  go_wp2_with fail
  refine (same_calls' _ _ _ _ _ _ w9 R89.out R9.out).mono ?_
  rintro e w10 ⟨rfl, k10, rfl⟩
  go_wp2_with (go_at_call 6; refine (works_calls _).mono ?_; rintro e w11 ⟨rfl, hb⟩)
  go_ret
  exact ⟨rfl, B9.out.trans ((below_drewN (Below.refl _ _) _).trans (hb.mono B9.out.size))⟩

theorem fresh_law (a : Option Addr) (len cap : Nat) (l : List Int) (p wd n : Int) (w : World) (H : Row w a len cap l) (hr : len ≤ 140737488351232) (h0 : 0 ≤ n) (h1 : n < 18446744073709551616) :
    Calls Try.prog 5 #[.slice a len cap, .int .i64 p, .int .i64 wd, .int .u64 n] w fun e w' => e = .returned (.bool true) ∧ Below w.heap.size w w' := by
  have e := H.1
  subst e
  exact fresh_calls a cap l p wd n w H hr h0 h1
end Go.Proofs.Ytbhihlahnllpgab
