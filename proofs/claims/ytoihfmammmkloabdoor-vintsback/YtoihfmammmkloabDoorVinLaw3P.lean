/-
  VintsBack and VintsMasks over contracts that are handed in.
-/
import Derived.Test.YtoihfmammmkloabDoorPkLan
set_option linter.unusedVariables false
set_option linter.unusedSimpArgs false
namespace Go.Proofs.YtoihfmammmkloabDoor
open Go.RowKit Lan

set_option maxHeartbeats 8000000 in
theorem vback_8 (T : World → Prop) (TL : Hide (∀ W W' : World, T W → Below W.heap.size W W' → T W')) (n a0 a1 l0 l1 h0 h1 m0 m1 k0 k1 : Nat) (E1 : Int.tmod (n : Int) 2 = 0) (E2 : (n : Int) % 2 = 0)
    (C0 : Hide (∀ W : World, T W → Calls Tryd.prog 7 #[.int .i64 8, .bool true, .bool false, vecV (a0, a1)] W fun e W' => e = .returned (vecE ((l0, l1), 0)) ∧ Below W.heap.size W W'))
    (C1 : Hide (∀ W : World, T W → Calls Tryd.prog 7 #[.int .i64 8, .bool true, .bool true, vecV (a0, a1)] W fun e W' => e = .returned (vecE ((h0, h1), 0)) ∧ Below W.heap.size W W'))
    (C2 : Hide (∀ W : World, T W → Calls Tryd.prog 8 #[.int .i64 16, .bool true, vecV (l0, l1), vecV (h0, h1)] W fun e W' => e = .returned (vecE ((a0, a1), 0)) ∧ Below W.heap.size W W'))
    (C3 : Hide (∀ W : World, T W → Calls Tryd.prog 7 #[.int .i64 8, .bool false, .bool false, vecV (a0, a1)] W fun e W' => e = .returned (vecE ((m0, m1), 0)) ∧ Below W.heap.size W W'))
    (C4 : Hide (∀ W : World, T W → Calls Tryd.prog 7 #[.int .i64 8, .bool false, .bool true, vecV (a0, a1)] W fun e W' => e = .returned (vecE ((k0, k1), 0)) ∧ Below W.heap.size W W'))
    (C5 : Hide (∀ W : World, T W → Calls Tryd.prog 8 #[.int .i64 16, .bool false, vecV (m0, m1), vecV (k0, k1)] W fun e W' => e = .returned (vecE ((a0, a1), 0)) ∧ Below W.heap.size W W'))
    (CW : Hide (∀ W : World, T W → Calls Tryd.prog 9 #[] W fun e W' => e = .returned (.bool true) ∧ Below W.heap.size W W'))
    (W : World) (HT : Hide (T W)) :
    Calls Tryd.prog 3 #[.int .u8 (n : Int), vecV (a0, a1)] W fun e W' => e = .returned (.bool true) ∧ Below W.heap.size W W' := by
  obtain ⟨wa, hwa⟩ : ∃ wa, (W.alloc (.cells #[.int .u64 (a0 : Int), .int .u64 (a1 : Int)] 24)) = wa := ⟨_, rfl⟩
  have Fa : Hide (VBlk wa (W.heap.size) (a0, a1)) := hide (by rw [← hwa]; exact alloc_at rfl)
  have B : Hide (Below W.heap.size W wa) := hide (by rw [← hwa]; exact (Below.refl _ _).alloc (Nat.le_refl _) _)
  have HU := hide hwa
  clear hwa
  unfold vecE at C0 C1 C2 C3 C4 C5
  unfold vecV at C0 C1 C2 C3 C4 C5 ⊢
  simp only at C0 C1 C2 C3 C4 C5 ⊢
  go_enter Tryd.func3, Tryd.ntmps3
  go_wp2_with fail
  rw [HU.out]
  refine (C0.out _ (TL.out _ _ HT.out B.out)).mono ?_
  rintro e w0 ⟨rfl, hb⟩
  have Fa0 : Hide (W.heap.size < w0.heap.size) := hide (Fa.out.later hb Fa.out.lt).lt
  obtain ⟨u0, hu⟩ : ∃ u, w0.alloc (.cells #[.int .u64 (l0 : Int), .int .u64 (l1 : Int)] 24) = u := ⟨_, rfl⟩
  have gFa0 := (Fa.out.later hb Fa.out.lt).c0
  have gFa1 := (Fa.out.later hb Fa.out.lt).c1
  have lFa := (Fa.out.later hb Fa.out.lt).lt
  simp only at gFa0 gFa1
  replace Fa := hide (show VBlk u0 _ _ by rw [← hu]; exact alloc_past (Fa.out.later hb Fa.out.lt))
  have X0 : Hide (VBlk u0 w0.heap.size (l0, l1)) := hide (by rw [← hu]; exact alloc_at rfl)
  replace B := hide (show Below W.heap.size W u0 by rw [← hu]; exact (B.out.trans (hb.mono B.out.size)).alloc (Nat.le_trans B.out.size hb.size) _)
  replace HU := hide hu
  clear hb hu
  go_wp2_with fail
  rw [HU.out]
  clear lFa gFa0 gFa1
  have FaN : Hide (W.heap.size ≠ w0.heap.size) := hide (by have := B.out.size; have := X0.out.lt; have := Fa0.out; omega)
  refine (C1.out _ (TL.out _ _ HT.out B.out)).mono ?_
  rintro e w1 ⟨rfl, hb⟩
  have L01 : Hide (w0.heap.size < w1.heap.size) := hide (X0.out.later hb X0.out.lt).lt
  obtain ⟨u1, hu⟩ : ∃ u, w1.alloc (.cells #[.int .u64 (h0 : Int), .int .u64 (h1 : Int)] 24) = u := ⟨_, rfl⟩
  have gX00 := (X0.out.later hb X0.out.lt).c0
  have gX01 := (X0.out.later hb X0.out.lt).c1
  have lX0 := (X0.out.later hb X0.out.lt).lt
  simp only at gX00 gX01
  replace Fa := hide (show VBlk u1 _ _ by rw [← hu]; exact alloc_past (Fa.out.later hb Fa.out.lt))
  replace X0 := hide (show VBlk u1 _ _ by rw [← hu]; exact alloc_past (X0.out.later hb X0.out.lt))
  have X1 : Hide (VBlk u1 w1.heap.size (h0, h1)) := hide (by rw [← hu]; exact alloc_at rfl)
  replace B := hide (show Below W.heap.size W u1 by rw [← hu]; exact (B.out.trans (hb.mono B.out.size)).alloc (Nat.le_trans B.out.size hb.size) _)
  replace HU := hide hu
  clear hb hu
  go_wp2_with fail
  rw [HU.out]
  clear lX0 gX00 gX01
  refine (C2.out _ (TL.out _ _ HT.out B.out)).mono ?_
  rintro e w2 ⟨rfl, hb⟩
  have L12 : Hide (w1.heap.size < w2.heap.size) := hide (X1.out.later hb X1.out.lt).lt
  obtain ⟨u2, hu⟩ : ∃ u, w2.alloc (.cells #[.int .u64 (a0 : Int), .int .u64 (a1 : Int)] 24) = u := ⟨_, rfl⟩
  have gFa0 := (Fa.out.later hb Fa.out.lt).c0
  have gFa1 := (Fa.out.later hb Fa.out.lt).c1
  have lFa := (Fa.out.later hb Fa.out.lt).lt
  simp only at gFa0 gFa1
  replace Fa := hide (show VBlk u2 _ _ by rw [← hu]; exact alloc_past (Fa.out.later hb Fa.out.lt))
  replace X0 := hide (show VBlk u2 _ _ by rw [← hu]; exact alloc_past (X0.out.later hb X0.out.lt))
  replace X1 := hide (show VBlk u2 _ _ by rw [← hu]; exact alloc_past (X1.out.later hb X1.out.lt))
  have X2 : Hide (VBlk u2 w2.heap.size (a0, a1)) := hide (by rw [← hu]; exact alloc_at rfl)
  replace B := hide (show Below W.heap.size W u2 by rw [← hu]; exact (B.out.trans (hb.mono B.out.size)).alloc (Nat.le_trans B.out.size hb.size) _)
  replace HU := hide hu
  clear hb hu
  go_wp2_with fail
  rw [HU.out]
  clear lFa gFa0 gFa1
  have X1N : Hide (w1.heap.size ≠ w0.heap.size) := hide (by have := L01.out; omega)
  have X2N : Hide (w2.heap.size ≠ w0.heap.size) := hide (by have := L01.out; have := L12.out; omega)
  have X0L : Hide (W.heap.size ≤ w0.heap.size) := hide (Nat.le_of_lt Fa0.out)
  refine (C3.out _ (TL.out _ _ HT.out B.out)).mono ?_
  rintro e w3 ⟨rfl, hb⟩
  replace Fa := hide (Fa.out.later hb Fa.out.lt)
  replace X0 := hide (X0.out.later hb X0.out.lt)
  replace X1 := hide (X1.out.later hb X1.out.lt)
  replace X2 := hide (X2.out.later hb X2.out.lt)
  replace B := hide (B.out.trans (hb.mono B.out.size))
  have q0 := X0.out.c0
  have q1 := X0.out.c1
  simp only at q0 q1
  have z0 := X0.out.frozen 0
  have z1 := X0.out.frozen 1
  have nFa : W.heap.size ≠ w0.heap.size := FaN.out
  have mFa : w0.heap.size ≠ W.heap.size := Ne.symm FaN.out
  have gFa0 := Fa.out.c0
  have gFa1 := Fa.out.c1
  simp only at gFa0 gFa1
  have nX1 : w1.heap.size ≠ w0.heap.size := X1N.out
  have mX1 : w0.heap.size ≠ w1.heap.size := Ne.symm X1N.out
  have nX2 : w2.heap.size ≠ w0.heap.size := X2N.out
  have mX2 : w0.heap.size ≠ w2.heap.size := Ne.symm X2N.out
  obtain ⟨u3, hu⟩ : ∃ u, (w3.setCell ⟨w0.heap.size, 0, none⟩ (.int .u64 (m0 : Int))).setCell ⟨w0.heap.size, 1, none⟩ (.int .u64 (m1 : Int)) = u := ⟨_, rfl⟩
  replace Fa := hide (show VBlk u3 _ _ by rw [← hu]; exact (Fa.out.other nFa _ _).other nFa _ _)
  replace X0 : Hide (VBlk u3 w0.heap.size (m0, m1)) := hide (by rw [← hu]; exact X0.out.set2 m0 m1)
  replace X1 := hide (show VBlk u3 _ _ by rw [← hu]; exact (X1.out.other nX1 _ _).other nX1 _ _)
  replace X2 := hide (show VBlk u3 _ _ by rw [← hu]; exact (X2.out.other nX2 _ _).other nX2 _ _)
  replace B := hide (show Below W.heap.size W u3 by rw [← hu]; exact (B.out.setCell X0L.out _).setCell X0L.out _)
  replace HU := hide hu
  clear hb hu
  go_wp2_with fail
  rw [HU.out]
  clear q0 q1 z0 z1 nFa mFa gFa0 gFa1 nX1 mX1 nX2 mX2
  replace FaN : Hide (W.heap.size ≠ w1.heap.size) := hide (by have := Fa0.out; have := L01.out; omega)
  have X0N : Hide (w0.heap.size ≠ w1.heap.size) := hide (by have := L01.out; omega)
  replace X2N : Hide (w2.heap.size ≠ w1.heap.size) := hide (by have := L12.out; omega)
  have X1L : Hide (W.heap.size ≤ w1.heap.size) := hide (by have := Fa0.out; have := L01.out; omega)
  refine (C4.out _ (TL.out _ _ HT.out B.out)).mono ?_
  rintro e w4 ⟨rfl, hb⟩
  replace Fa := hide (Fa.out.later hb Fa.out.lt)
  replace X0 := hide (X0.out.later hb X0.out.lt)
  replace X1 := hide (X1.out.later hb X1.out.lt)
  replace X2 := hide (X2.out.later hb X2.out.lt)
  replace B := hide (B.out.trans (hb.mono B.out.size))
  have q0 := X1.out.c0
  have q1 := X1.out.c1
  simp only at q0 q1
  have z0 := X1.out.frozen 0
  have z1 := X1.out.frozen 1
  have nFa : W.heap.size ≠ w1.heap.size := FaN.out
  have mFa : w1.heap.size ≠ W.heap.size := Ne.symm FaN.out
  have nX0 : w0.heap.size ≠ w1.heap.size := X0N.out
  have mX0 : w1.heap.size ≠ w0.heap.size := Ne.symm X0N.out
  have gX00 := X0.out.c0
  have gX01 := X0.out.c1
  simp only at gX00 gX01
  have nX2 : w2.heap.size ≠ w1.heap.size := X2N.out
  have mX2 : w1.heap.size ≠ w2.heap.size := Ne.symm X2N.out
  obtain ⟨u4, hu⟩ : ∃ u, (w4.setCell ⟨w1.heap.size, 0, none⟩ (.int .u64 (k0 : Int))).setCell ⟨w1.heap.size, 1, none⟩ (.int .u64 (k1 : Int)) = u := ⟨_, rfl⟩
  replace Fa := hide (show VBlk u4 _ _ by rw [← hu]; exact (Fa.out.other nFa _ _).other nFa _ _)
  replace X0 := hide (show VBlk u4 _ _ by rw [← hu]; exact (X0.out.other nX0 _ _).other nX0 _ _)
  replace X1 : Hide (VBlk u4 w1.heap.size (k0, k1)) := hide (by rw [← hu]; exact X1.out.set2 k0 k1)
  replace X2 := hide (show VBlk u4 _ _ by rw [← hu]; exact (X2.out.other nX2 _ _).other nX2 _ _)
  replace B := hide (show Below W.heap.size W u4 by rw [← hu]; exact (B.out.setCell X1L.out _).setCell X1L.out _)
  replace HU := hide hu
  clear hb hu
  go_wp2_with fail
  rw [HU.out]
  clear q0 q1 z0 z1 nFa mFa nX0 mX0 gX00 gX01 nX2 mX2
  refine (C5.out _ (TL.out _ _ HT.out B.out)).mono ?_
  rintro e w5 ⟨rfl, hb⟩
  obtain ⟨u5, hu⟩ : ∃ u, w5.alloc (.cells #[.int .u64 (a0 : Int), .int .u64 (a1 : Int)] 24) = u := ⟨_, rfl⟩
  have gX20 := (X2.out.later hb X2.out.lt).c0
  have gX21 := (X2.out.later hb X2.out.lt).c1
  have lX2 := (X2.out.later hb X2.out.lt).lt
  have gFa0 := (Fa.out.later hb Fa.out.lt).c0
  have gFa1 := (Fa.out.later hb Fa.out.lt).c1
  have lFa := (Fa.out.later hb Fa.out.lt).lt
  simp only at gX20 gX21 gFa0 gFa1
  replace Fa := hide (show VBlk u5 _ _ by rw [← hu]; exact alloc_past (Fa.out.later hb Fa.out.lt))
  replace X0 := hide (show VBlk u5 _ _ by rw [← hu]; exact alloc_past (X0.out.later hb X0.out.lt))
  replace X1 := hide (show VBlk u5 _ _ by rw [← hu]; exact alloc_past (X1.out.later hb X1.out.lt))
  replace X2 := hide (show VBlk u5 _ _ by rw [← hu]; exact alloc_past (X2.out.later hb X2.out.lt))
  have X5 : Hide (VBlk u5 w5.heap.size (a0, a1)) := hide (by rw [← hu]; exact alloc_at rfl)
  replace B := hide (show Below W.heap.size W u5 by rw [← hu]; exact (B.out.trans (hb.mono B.out.size)).alloc (Nat.le_trans B.out.size hb.size) _)
  replace HU := hide hu
  clear hb hu
  go_wp2_with fail
  rw [HU.out]
  clear lX2 lFa gX20 gX21 gFa0 gFa1
  refine (CW.out _ (TL.out _ _ HT.out B.out)).mono ?_
  rintro e wz ⟨rfl, hb⟩
  replace B := hide (B.out.trans (hb.mono B.out.size))
  clear hb
  go_wp2
  go_ret
  exact ⟨rfl, B.out⟩

set_option maxHeartbeats 8000000 in
theorem vback_16 (T : World → Prop) (TL : Hide (∀ W W' : World, T W → Below W.heap.size W W' → T W')) (n a0 a1 l0 l1 h0 h1 m0 m1 k0 k1 : Nat) (E1 : Int.tmod (n : Int) 2 = 1) (E2 : (n : Int) % 2 = 1)
    (C0 : Hide (∀ W : World, T W → Calls Tryd.prog 7 #[.int .i64 16, .bool true, .bool false, vecV (a0, a1)] W fun e W' => e = .returned (vecE ((l0, l1), 0)) ∧ Below W.heap.size W W'))
    (C1 : Hide (∀ W : World, T W → Calls Tryd.prog 7 #[.int .i64 16, .bool true, .bool true, vecV (a0, a1)] W fun e W' => e = .returned (vecE ((h0, h1), 0)) ∧ Below W.heap.size W W'))
    (C2 : Hide (∀ W : World, T W → Calls Tryd.prog 8 #[.int .i64 32, .bool true, vecV (l0, l1), vecV (h0, h1)] W fun e W' => e = .returned (vecE ((a0, a1), 0)) ∧ Below W.heap.size W W'))
    (C3 : Hide (∀ W : World, T W → Calls Tryd.prog 7 #[.int .i64 16, .bool false, .bool false, vecV (a0, a1)] W fun e W' => e = .returned (vecE ((m0, m1), 0)) ∧ Below W.heap.size W W'))
    (C4 : Hide (∀ W : World, T W → Calls Tryd.prog 7 #[.int .i64 16, .bool false, .bool true, vecV (a0, a1)] W fun e W' => e = .returned (vecE ((k0, k1), 0)) ∧ Below W.heap.size W W'))
    (C5 : Hide (∀ W : World, T W → Calls Tryd.prog 8 #[.int .i64 32, .bool false, vecV (m0, m1), vecV (k0, k1)] W fun e W' => e = .returned (vecE ((a0, a1), 0)) ∧ Below W.heap.size W W'))
    (CW : Hide (∀ W : World, T W → Calls Tryd.prog 9 #[] W fun e W' => e = .returned (.bool true) ∧ Below W.heap.size W W'))
    (W : World) (HT : Hide (T W)) :
    Calls Tryd.prog 3 #[.int .u8 (n : Int), vecV (a0, a1)] W fun e W' => e = .returned (.bool true) ∧ Below W.heap.size W W' := by
  obtain ⟨wa, hwa⟩ : ∃ wa, (W.alloc (.cells #[.int .u64 (a0 : Int), .int .u64 (a1 : Int)] 24)) = wa := ⟨_, rfl⟩
  have Fa : Hide (VBlk wa (W.heap.size) (a0, a1)) := hide (by rw [← hwa]; exact alloc_at rfl)
  have B : Hide (Below W.heap.size W wa) := hide (by rw [← hwa]; exact (Below.refl _ _).alloc (Nat.le_refl _) _)
  have HU := hide hwa
  clear hwa
  unfold vecE at C0 C1 C2 C3 C4 C5
  unfold vecV at C0 C1 C2 C3 C4 C5 ⊢
  simp only at C0 C1 C2 C3 C4 C5 ⊢
  go_enter Tryd.func3, Tryd.ntmps3
  go_wp2_with fail
  rw [HU.out]
  refine (C0.out _ (TL.out _ _ HT.out B.out)).mono ?_
  rintro e w0 ⟨rfl, hb⟩
  have Fa0 : Hide (W.heap.size < w0.heap.size) := hide (Fa.out.later hb Fa.out.lt).lt
  obtain ⟨u0, hu⟩ : ∃ u, w0.alloc (.cells #[.int .u64 (l0 : Int), .int .u64 (l1 : Int)] 24) = u := ⟨_, rfl⟩
  have gFa0 := (Fa.out.later hb Fa.out.lt).c0
  have gFa1 := (Fa.out.later hb Fa.out.lt).c1
  have lFa := (Fa.out.later hb Fa.out.lt).lt
  simp only at gFa0 gFa1
  replace Fa := hide (show VBlk u0 _ _ by rw [← hu]; exact alloc_past (Fa.out.later hb Fa.out.lt))
  have X0 : Hide (VBlk u0 w0.heap.size (l0, l1)) := hide (by rw [← hu]; exact alloc_at rfl)
  replace B := hide (show Below W.heap.size W u0 by rw [← hu]; exact (B.out.trans (hb.mono B.out.size)).alloc (Nat.le_trans B.out.size hb.size) _)
  replace HU := hide hu
  clear hb hu
  go_wp2_with fail
  rw [HU.out]
  clear lFa gFa0 gFa1
  have FaN : Hide (W.heap.size ≠ w0.heap.size) := hide (by have := B.out.size; have := X0.out.lt; have := Fa0.out; omega)
  refine (C1.out _ (TL.out _ _ HT.out B.out)).mono ?_
  rintro e w1 ⟨rfl, hb⟩
  have L01 : Hide (w0.heap.size < w1.heap.size) := hide (X0.out.later hb X0.out.lt).lt
  obtain ⟨u1, hu⟩ : ∃ u, w1.alloc (.cells #[.int .u64 (h0 : Int), .int .u64 (h1 : Int)] 24) = u := ⟨_, rfl⟩
  have gX00 := (X0.out.later hb X0.out.lt).c0
  have gX01 := (X0.out.later hb X0.out.lt).c1
  have lX0 := (X0.out.later hb X0.out.lt).lt
  simp only at gX00 gX01
  replace Fa := hide (show VBlk u1 _ _ by rw [← hu]; exact alloc_past (Fa.out.later hb Fa.out.lt))
  replace X0 := hide (show VBlk u1 _ _ by rw [← hu]; exact alloc_past (X0.out.later hb X0.out.lt))
  have X1 : Hide (VBlk u1 w1.heap.size (h0, h1)) := hide (by rw [← hu]; exact alloc_at rfl)
  replace B := hide (show Below W.heap.size W u1 by rw [← hu]; exact (B.out.trans (hb.mono B.out.size)).alloc (Nat.le_trans B.out.size hb.size) _)
  replace HU := hide hu
  clear hb hu
  go_wp2_with fail
  rw [HU.out]
  clear lX0 gX00 gX01
  refine (C2.out _ (TL.out _ _ HT.out B.out)).mono ?_
  rintro e w2 ⟨rfl, hb⟩
  have L12 : Hide (w1.heap.size < w2.heap.size) := hide (X1.out.later hb X1.out.lt).lt
  obtain ⟨u2, hu⟩ : ∃ u, w2.alloc (.cells #[.int .u64 (a0 : Int), .int .u64 (a1 : Int)] 24) = u := ⟨_, rfl⟩
  have gFa0 := (Fa.out.later hb Fa.out.lt).c0
  have gFa1 := (Fa.out.later hb Fa.out.lt).c1
  have lFa := (Fa.out.later hb Fa.out.lt).lt
  simp only at gFa0 gFa1
  replace Fa := hide (show VBlk u2 _ _ by rw [← hu]; exact alloc_past (Fa.out.later hb Fa.out.lt))
  replace X0 := hide (show VBlk u2 _ _ by rw [← hu]; exact alloc_past (X0.out.later hb X0.out.lt))
  replace X1 := hide (show VBlk u2 _ _ by rw [← hu]; exact alloc_past (X1.out.later hb X1.out.lt))
  have X2 : Hide (VBlk u2 w2.heap.size (a0, a1)) := hide (by rw [← hu]; exact alloc_at rfl)
  replace B := hide (show Below W.heap.size W u2 by rw [← hu]; exact (B.out.trans (hb.mono B.out.size)).alloc (Nat.le_trans B.out.size hb.size) _)
  replace HU := hide hu
  clear hb hu
  go_wp2_with fail
  rw [HU.out]
  clear lFa gFa0 gFa1
  have X1N : Hide (w1.heap.size ≠ w0.heap.size) := hide (by have := L01.out; omega)
  have X2N : Hide (w2.heap.size ≠ w0.heap.size) := hide (by have := L01.out; have := L12.out; omega)
  have X0L : Hide (W.heap.size ≤ w0.heap.size) := hide (Nat.le_of_lt Fa0.out)
  refine (C3.out _ (TL.out _ _ HT.out B.out)).mono ?_
  rintro e w3 ⟨rfl, hb⟩
  replace Fa := hide (Fa.out.later hb Fa.out.lt)
  replace X0 := hide (X0.out.later hb X0.out.lt)
  replace X1 := hide (X1.out.later hb X1.out.lt)
  replace X2 := hide (X2.out.later hb X2.out.lt)
  replace B := hide (B.out.trans (hb.mono B.out.size))
  have q0 := X0.out.c0
  have q1 := X0.out.c1
  simp only at q0 q1
  have z0 := X0.out.frozen 0
  have z1 := X0.out.frozen 1
  have nFa : W.heap.size ≠ w0.heap.size := FaN.out
  have mFa : w0.heap.size ≠ W.heap.size := Ne.symm FaN.out
  have gFa0 := Fa.out.c0
  have gFa1 := Fa.out.c1
  simp only at gFa0 gFa1
  have nX1 : w1.heap.size ≠ w0.heap.size := X1N.out
  have mX1 : w0.heap.size ≠ w1.heap.size := Ne.symm X1N.out
  have nX2 : w2.heap.size ≠ w0.heap.size := X2N.out
  have mX2 : w0.heap.size ≠ w2.heap.size := Ne.symm X2N.out
  obtain ⟨u3, hu⟩ : ∃ u, (w3.setCell ⟨w0.heap.size, 0, none⟩ (.int .u64 (m0 : Int))).setCell ⟨w0.heap.size, 1, none⟩ (.int .u64 (m1 : Int)) = u := ⟨_, rfl⟩
  replace Fa := hide (show VBlk u3 _ _ by rw [← hu]; exact (Fa.out.other nFa _ _).other nFa _ _)
  replace X0 : Hide (VBlk u3 w0.heap.size (m0, m1)) := hide (by rw [← hu]; exact X0.out.set2 m0 m1)
  replace X1 := hide (show VBlk u3 _ _ by rw [← hu]; exact (X1.out.other nX1 _ _).other nX1 _ _)
  replace X2 := hide (show VBlk u3 _ _ by rw [← hu]; exact (X2.out.other nX2 _ _).other nX2 _ _)
  replace B := hide (show Below W.heap.size W u3 by rw [← hu]; exact (B.out.setCell X0L.out _).setCell X0L.out _)
  replace HU := hide hu
  clear hb hu
  go_wp2_with fail
  rw [HU.out]
  clear q0 q1 z0 z1 nFa mFa gFa0 gFa1 nX1 mX1 nX2 mX2
  replace FaN : Hide (W.heap.size ≠ w1.heap.size) := hide (by have := Fa0.out; have := L01.out; omega)
  have X0N : Hide (w0.heap.size ≠ w1.heap.size) := hide (by have := L01.out; omega)
  replace X2N : Hide (w2.heap.size ≠ w1.heap.size) := hide (by have := L12.out; omega)
  have X1L : Hide (W.heap.size ≤ w1.heap.size) := hide (by have := Fa0.out; have := L01.out; omega)
  refine (C4.out _ (TL.out _ _ HT.out B.out)).mono ?_
  rintro e w4 ⟨rfl, hb⟩
  replace Fa := hide (Fa.out.later hb Fa.out.lt)
  replace X0 := hide (X0.out.later hb X0.out.lt)
  replace X1 := hide (X1.out.later hb X1.out.lt)
  replace X2 := hide (X2.out.later hb X2.out.lt)
  replace B := hide (B.out.trans (hb.mono B.out.size))
  have q0 := X1.out.c0
  have q1 := X1.out.c1
  simp only at q0 q1
  have z0 := X1.out.frozen 0
  have z1 := X1.out.frozen 1
  have nFa : W.heap.size ≠ w1.heap.size := FaN.out
  have mFa : w1.heap.size ≠ W.heap.size := Ne.symm FaN.out
  have nX0 : w0.heap.size ≠ w1.heap.size := X0N.out
  have mX0 : w1.heap.size ≠ w0.heap.size := Ne.symm X0N.out
  have gX00 := X0.out.c0
  have gX01 := X0.out.c1
  simp only at gX00 gX01
  have nX2 : w2.heap.size ≠ w1.heap.size := X2N.out
  have mX2 : w1.heap.size ≠ w2.heap.size := Ne.symm X2N.out
  obtain ⟨u4, hu⟩ : ∃ u, (w4.setCell ⟨w1.heap.size, 0, none⟩ (.int .u64 (k0 : Int))).setCell ⟨w1.heap.size, 1, none⟩ (.int .u64 (k1 : Int)) = u := ⟨_, rfl⟩
  replace Fa := hide (show VBlk u4 _ _ by rw [← hu]; exact (Fa.out.other nFa _ _).other nFa _ _)
  replace X0 := hide (show VBlk u4 _ _ by rw [← hu]; exact (X0.out.other nX0 _ _).other nX0 _ _)
  replace X1 : Hide (VBlk u4 w1.heap.size (k0, k1)) := hide (by rw [← hu]; exact X1.out.set2 k0 k1)
  replace X2 := hide (show VBlk u4 _ _ by rw [← hu]; exact (X2.out.other nX2 _ _).other nX2 _ _)
  replace B := hide (show Below W.heap.size W u4 by rw [← hu]; exact (B.out.setCell X1L.out _).setCell X1L.out _)
  replace HU := hide hu
  clear hb hu
  go_wp2_with fail
  rw [HU.out]
  clear q0 q1 z0 z1 nFa mFa nX0 mX0 gX00 gX01 nX2 mX2
  refine (C5.out _ (TL.out _ _ HT.out B.out)).mono ?_
  rintro e w5 ⟨rfl, hb⟩
  obtain ⟨u5, hu⟩ : ∃ u, w5.alloc (.cells #[.int .u64 (a0 : Int), .int .u64 (a1 : Int)] 24) = u := ⟨_, rfl⟩
  have gX20 := (X2.out.later hb X2.out.lt).c0
  have gX21 := (X2.out.later hb X2.out.lt).c1
  have lX2 := (X2.out.later hb X2.out.lt).lt
  have gFa0 := (Fa.out.later hb Fa.out.lt).c0
  have gFa1 := (Fa.out.later hb Fa.out.lt).c1
  have lFa := (Fa.out.later hb Fa.out.lt).lt
  simp only at gX20 gX21 gFa0 gFa1
  replace Fa := hide (show VBlk u5 _ _ by rw [← hu]; exact alloc_past (Fa.out.later hb Fa.out.lt))
  replace X0 := hide (show VBlk u5 _ _ by rw [← hu]; exact alloc_past (X0.out.later hb X0.out.lt))
  replace X1 := hide (show VBlk u5 _ _ by rw [← hu]; exact alloc_past (X1.out.later hb X1.out.lt))
  replace X2 := hide (show VBlk u5 _ _ by rw [← hu]; exact alloc_past (X2.out.later hb X2.out.lt))
  have X5 : Hide (VBlk u5 w5.heap.size (a0, a1)) := hide (by rw [← hu]; exact alloc_at rfl)
  replace B := hide (show Below W.heap.size W u5 by rw [← hu]; exact (B.out.trans (hb.mono B.out.size)).alloc (Nat.le_trans B.out.size hb.size) _)
  replace HU := hide hu
  clear hb hu
  go_wp2_with fail
  rw [HU.out]
  clear lX2 lFa gX20 gX21 gFa0 gFa1
  refine (CW.out _ (TL.out _ _ HT.out B.out)).mono ?_
  rintro e wz ⟨rfl, hb⟩
  replace B := hide (B.out.trans (hb.mono B.out.size))
  clear hb
  go_wp2
  go_ret
  exact ⟨rfl, B.out⟩

set_option maxHeartbeats 8000000 in
theorem vmasks_8_same (T : World → Prop) (TL : Hide (∀ W W' : World, T W → Below W.heap.size W W' → T W')) (n a0 a1 p q r s : Nat)
    (CD : Hide (∀ W : World, Calls Tryd.prog 10 #[.int .u8 (n : Int)] W fun e W' => e = .returned (.int .i64 8) ∧ W' = W))
    (C0 : Hide (∀ W : World, T W → Calls Tryd.prog 11 #[.int .u8 32, .int .i64 8, vecV (a0, a1), vecV (a0, a1)] W fun e W' => e = .returned (vecE ((p, q), 0)) ∧ Below W.heap.size W W'))
    (C1 : Hide (∀ W : World, T W → Calls Tryd.prog 12 #[.int .i64 8, vecV (p, q)] W fun e W' => e = .returned (.tuple #[.int .u64 65535, .int .i64 0]) ∧ Below W.heap.size W W'))
    (C2 : Hide (∀ W : World, T W → Calls Tryd.prog 11 #[.int .u8 32, .int .i64 8, vecV (a0, a1), vecV (a0, a1)] W fun e W' => e = .returned (vecE ((r, s), 0)) ∧ Below W.heap.size W W'))
    (C3 : Hide (∀ W : World, T W → Calls Tryd.prog 12 #[.int .i64 8, vecV (r, s)] W fun e W' => e = .returned (.tuple #[.int .u64 65535, .int .i64 0]) ∧ Below W.heap.size W W'))
    (C4 : Hide (∀ W : World, T W → Calls Tryd.prog 13 #[.int .i64 8, vecV (r, s)] W fun e W' => e = .returned (.tuple #[.bool true, .int .i64 0]) ∧ Below W.heap.size W W'))
    (CW : Hide (∀ W : World, T W → Calls Tryd.prog 9 #[] W fun e W' => e = .returned (.bool true) ∧ Below W.heap.size W W'))
    (W : World) (HT : Hide (T W)) :
    Calls Tryd.prog 4 #[.int .u8 (n : Int), vecV (a0, a1), vecV (a0, a1)] W fun e W' => e = .returned (.bool true) ∧ Below W.heap.size W W' := by
  obtain ⟨wa, hwa⟩ : ∃ wa, ((W.alloc (.cells #[.int .u64 (a0 : Int), .int .u64 (a1 : Int)] 24)).alloc (.cells #[.int .u64 (a0 : Int), .int .u64 (a1 : Int)] 24)) = wa := ⟨_, rfl⟩
  have Fa : Hide (VBlk wa (W.heap.size) (a0, a1)) := hide (by rw [← hwa]; exact alloc_past (alloc_at rfl))
  have Fb : Hide (VBlk wa (W.heap.size + 1) (a0, a1)) := hide (by rw [← hwa]; exact alloc_at (by simp))
  have B : Hide (Below W.heap.size W wa) := hide (by rw [← hwa]; exact ((Below.refl _ _).alloc (Nat.le_refl _) _).alloc (by simp) _)
  have HU := hide hwa
  clear hwa
  unfold vecE at C0 C2
  unfold vecV at C0 C1 C2 C3 C4 ⊢
  simp only at C0 C1 C2 C3 C4 ⊢
  go_enter Tryd.func4, Tryd.ntmps4
  go_wp2_with ((with_reducible refine (CD.out _).mono ?_); rintro e wq ⟨rfl, hww⟩; replace hww := hww.symm; subst hww)
  rw [HU.out]
  refine (C0.out _ (TL.out _ _ HT.out B.out)).mono ?_
  rintro e w0 ⟨rfl, hb⟩
  obtain ⟨u0, hu⟩ : ∃ u, w0.alloc (.cells #[.int .u64 (p : Int), .int .u64 (q : Int)] 24) = u := ⟨_, rfl⟩
  replace Fa := hide (show VBlk u0 _ _ by rw [← hu]; exact alloc_past (Fa.out.later hb Fa.out.lt))
  replace Fb := hide (show VBlk u0 _ _ by rw [← hu]; exact alloc_past (Fb.out.later hb Fb.out.lt))
  have X0 : Hide (VBlk u0 w0.heap.size (p, q)) := hide (by rw [← hu]; exact alloc_at rfl)
  replace B := hide (show Below W.heap.size W u0 by rw [← hu]; exact (B.out.trans (hb.mono B.out.size)).alloc (Nat.le_trans B.out.size hb.size) _)
  replace HU := hide hu
  clear hb hu
  go_wp2_with fail
  rw [HU.out]
  refine (C1.out _ (TL.out _ _ HT.out B.out)).mono ?_
  rintro e w1 ⟨rfl, hb⟩
  replace Fa := hide (Fa.out.later hb Fa.out.lt)
  replace Fb := hide (Fb.out.later hb Fb.out.lt)
  replace X0 := hide (X0.out.later hb X0.out.lt)
  replace B := hide (B.out.trans (hb.mono B.out.size))
  have gFa0 := Fa.out.c0
  have gFa1 := Fa.out.c1
  have gFb0 := Fb.out.c0
  have gFb1 := Fb.out.c1
  simp only at gFa0 gFa1 gFb0 gFb1
  clear hb
  go_wp2_with fail
  clear gFa0 gFa1 gFb0 gFb1
  refine (C2.out _ (TL.out _ _ HT.out B.out)).mono ?_
  rintro e w2 ⟨rfl, hb⟩
  obtain ⟨u2, hu⟩ : ∃ u, w2.alloc (.cells #[.int .u64 (r : Int), .int .u64 (s : Int)] 24) = u := ⟨_, rfl⟩
  replace Fa := hide (show VBlk u2 _ _ by rw [← hu]; exact alloc_past (Fa.out.later hb Fa.out.lt))
  replace Fb := hide (show VBlk u2 _ _ by rw [← hu]; exact alloc_past (Fb.out.later hb Fb.out.lt))
  replace X0 := hide (show VBlk u2 _ _ by rw [← hu]; exact alloc_past (X0.out.later hb X0.out.lt))
  have X2 : Hide (VBlk u2 w2.heap.size (r, s)) := hide (by rw [← hu]; exact alloc_at rfl)
  replace B := hide (show Below W.heap.size W u2 by rw [← hu]; exact (B.out.trans (hb.mono B.out.size)).alloc (Nat.le_trans B.out.size hb.size) _)
  replace HU := hide hu
  clear hb hu
  go_wp2_with fail
  rw [HU.out]
  refine (C3.out _ (TL.out _ _ HT.out B.out)).mono ?_
  rintro e w3 ⟨rfl, hb⟩
  replace Fa := hide (Fa.out.later hb Fa.out.lt)
  replace Fb := hide (Fb.out.later hb Fb.out.lt)
  replace X0 := hide (X0.out.later hb X0.out.lt)
  replace X2 := hide (X2.out.later hb X2.out.lt)
  replace B := hide (B.out.trans (hb.mono B.out.size))
  have gX20 := X2.out.c0
  have gX21 := X2.out.c1
  simp only at gX20 gX21
  clear hb
  go_wp2_with fail
  clear gX20 gX21
  refine (C4.out _ (TL.out _ _ HT.out B.out)).mono ?_
  rintro e w4 ⟨rfl, hb⟩
  replace Fa := hide (Fa.out.later hb Fa.out.lt)
  replace Fb := hide (Fb.out.later hb Fb.out.lt)
  replace X0 := hide (X0.out.later hb X0.out.lt)
  replace X2 := hide (X2.out.later hb X2.out.lt)
  replace B := hide (B.out.trans (hb.mono B.out.size))
  have gFa0 := Fa.out.c0
  have gFa1 := Fa.out.c1
  have gFb0 := Fb.out.c0
  have gFb1 := Fb.out.c1
  simp only at gFa0 gFa1 gFb0 gFb1
  clear hb
  go_wp2_with fail
  clear gFa0 gFa1 gFb0 gFb1
  refine (CW.out _ (TL.out _ _ HT.out B.out)).mono ?_
  rintro e wz ⟨rfl, hb⟩
  replace B := hide (B.out.trans (hb.mono B.out.size))
  clear hb
  go_wp2
  go_ret
  exact ⟨rfl, B.out⟩

set_option maxHeartbeats 8000000 in
theorem vmasks_8_other1 (T : World → Prop) (TL : Hide (∀ W W' : World, T W → Below W.heap.size W W' → T W')) (n a0 a1 b0 b1 p q r s : Nat) (k : Int) (hk : (k == 65535) = false) (h1 : ((a0 : Int) == (b0 : Int)) = false) (h2 : ¬ (a0 : Int) = (b0 : Int)) (h3 : ¬ a0 = b0)
    (CD : Hide (∀ W : World, Calls Tryd.prog 10 #[.int .u8 (n : Int)] W fun e W' => e = .returned (.int .i64 8) ∧ W' = W))
    (C0 : Hide (∀ W : World, T W → Calls Tryd.prog 11 #[.int .u8 32, .int .i64 8, vecV (a0, a1), vecV (a0, a1)] W fun e W' => e = .returned (vecE ((p, q), 0)) ∧ Below W.heap.size W W'))
    (C1 : Hide (∀ W : World, T W → Calls Tryd.prog 12 #[.int .i64 8, vecV (p, q)] W fun e W' => e = .returned (.tuple #[.int .u64 65535, .int .i64 0]) ∧ Below W.heap.size W W'))
    (C2 : Hide (∀ W : World, T W → Calls Tryd.prog 11 #[.int .u8 32, .int .i64 8, vecV (a0, a1), vecV (b0, b1)] W fun e W' => e = .returned (vecE ((r, s), 0)) ∧ Below W.heap.size W W'))
    (C3 : Hide (∀ W : World, T W → Calls Tryd.prog 12 #[.int .i64 8, vecV (r, s)] W fun e W' => e = .returned (.tuple #[.int .u64 k, .int .i64 0]) ∧ Below W.heap.size W W'))
    (C4 : Hide (∀ W : World, T W → Calls Tryd.prog 13 #[.int .i64 8, vecV (r, s)] W fun e W' => e = .returned (.tuple #[.bool false, .int .i64 0]) ∧ Below W.heap.size W W'))
    (CW : Hide (∀ W : World, T W → Calls Tryd.prog 9 #[] W fun e W' => e = .returned (.bool true) ∧ Below W.heap.size W W'))
    (W : World) (HT : Hide (T W)) :
    Calls Tryd.prog 4 #[.int .u8 (n : Int), vecV (a0, a1), vecV (b0, b1)] W fun e W' => e = .returned (.bool true) ∧ Below W.heap.size W W' := by
  obtain ⟨wa, hwa⟩ : ∃ wa, ((W.alloc (.cells #[.int .u64 (a0 : Int), .int .u64 (a1 : Int)] 24)).alloc (.cells #[.int .u64 (b0 : Int), .int .u64 (b1 : Int)] 24)) = wa := ⟨_, rfl⟩
  have Fa : Hide (VBlk wa (W.heap.size) (a0, a1)) := hide (by rw [← hwa]; exact alloc_past (alloc_at rfl))
  have Fb : Hide (VBlk wa (W.heap.size + 1) (b0, b1)) := hide (by rw [← hwa]; exact alloc_at (by simp))
  have B : Hide (Below W.heap.size W wa) := hide (by rw [← hwa]; exact ((Below.refl _ _).alloc (Nat.le_refl _) _).alloc (by simp) _)
  have HU := hide hwa
  clear hwa
  unfold vecE at C0 C2
  unfold vecV at C0 C1 C2 C3 C4 ⊢
  simp only at C0 C1 C2 C3 C4 ⊢
  go_enter Tryd.func4, Tryd.ntmps4
  go_wp2_with ((with_reducible refine (CD.out _).mono ?_); rintro e wq ⟨rfl, hww⟩; replace hww := hww.symm; subst hww)
  rw [HU.out]
  refine (C0.out _ (TL.out _ _ HT.out B.out)).mono ?_
  rintro e w0 ⟨rfl, hb⟩
  obtain ⟨u0, hu⟩ : ∃ u, w0.alloc (.cells #[.int .u64 (p : Int), .int .u64 (q : Int)] 24) = u := ⟨_, rfl⟩
  replace Fa := hide (show VBlk u0 _ _ by rw [← hu]; exact alloc_past (Fa.out.later hb Fa.out.lt))
  replace Fb := hide (show VBlk u0 _ _ by rw [← hu]; exact alloc_past (Fb.out.later hb Fb.out.lt))
  have X0 : Hide (VBlk u0 w0.heap.size (p, q)) := hide (by rw [← hu]; exact alloc_at rfl)
  replace B := hide (show Below W.heap.size W u0 by rw [← hu]; exact (B.out.trans (hb.mono B.out.size)).alloc (Nat.le_trans B.out.size hb.size) _)
  replace HU := hide hu
  clear hb hu
  go_wp2_with fail
  rw [HU.out]
  refine (C1.out _ (TL.out _ _ HT.out B.out)).mono ?_
  rintro e w1 ⟨rfl, hb⟩
  replace Fa := hide (Fa.out.later hb Fa.out.lt)
  replace Fb := hide (Fb.out.later hb Fb.out.lt)
  replace X0 := hide (X0.out.later hb X0.out.lt)
  replace B := hide (B.out.trans (hb.mono B.out.size))
  have gFa0 := Fa.out.c0
  have gFa1 := Fa.out.c1
  have gFb0 := Fb.out.c0
  have gFb1 := Fb.out.c1
  simp only at gFa0 gFa1 gFb0 gFb1
  clear hb
  go_wp2_with fail
  clear gFa0 gFa1 gFb0 gFb1
  refine (C2.out _ (TL.out _ _ HT.out B.out)).mono ?_
  rintro e w2 ⟨rfl, hb⟩
  obtain ⟨u2, hu⟩ : ∃ u, w2.alloc (.cells #[.int .u64 (r : Int), .int .u64 (s : Int)] 24) = u := ⟨_, rfl⟩
  replace Fa := hide (show VBlk u2 _ _ by rw [← hu]; exact alloc_past (Fa.out.later hb Fa.out.lt))
  replace Fb := hide (show VBlk u2 _ _ by rw [← hu]; exact alloc_past (Fb.out.later hb Fb.out.lt))
  replace X0 := hide (show VBlk u2 _ _ by rw [← hu]; exact alloc_past (X0.out.later hb X0.out.lt))
  have X2 : Hide (VBlk u2 w2.heap.size (r, s)) := hide (by rw [← hu]; exact alloc_at rfl)
  replace B := hide (show Below W.heap.size W u2 by rw [← hu]; exact (B.out.trans (hb.mono B.out.size)).alloc (Nat.le_trans B.out.size hb.size) _)
  replace HU := hide hu
  clear hb hu
  go_wp2_with fail
  rw [HU.out]
  refine (C3.out _ (TL.out _ _ HT.out B.out)).mono ?_
  rintro e w3 ⟨rfl, hb⟩
  replace Fa := hide (Fa.out.later hb Fa.out.lt)
  replace Fb := hide (Fb.out.later hb Fb.out.lt)
  replace X0 := hide (X0.out.later hb X0.out.lt)
  replace X2 := hide (X2.out.later hb X2.out.lt)
  replace B := hide (B.out.trans (hb.mono B.out.size))
  have gX20 := X2.out.c0
  have gX21 := X2.out.c1
  simp only at gX20 gX21
  clear hb
  go_wp2_with fail
  clear gX20 gX21
  refine (C4.out _ (TL.out _ _ HT.out B.out)).mono ?_
  rintro e w4 ⟨rfl, hb⟩
  replace Fa := hide (Fa.out.later hb Fa.out.lt)
  replace Fb := hide (Fb.out.later hb Fb.out.lt)
  replace X0 := hide (X0.out.later hb X0.out.lt)
  replace X2 := hide (X2.out.later hb X2.out.lt)
  replace B := hide (B.out.trans (hb.mono B.out.size))
  have gFa0 := Fa.out.c0
  have gFa1 := Fa.out.c1
  have gFb0 := Fb.out.c0
  have gFb1 := Fb.out.c1
  simp only at gFa0 gFa1 gFb0 gFb1
  clear hb
  go_wp2_with fail
  clear gFa0 gFa1 gFb0 gFb1
  refine (CW.out _ (TL.out _ _ HT.out B.out)).mono ?_
  rintro e wz ⟨rfl, hb⟩
  replace B := hide (B.out.trans (hb.mono B.out.size))
  clear hb
  go_wp2
  go_ret
  exact ⟨rfl, B.out⟩

set_option maxHeartbeats 8000000 in
theorem vmasks_8_other2 (T : World → Prop) (TL : Hide (∀ W W' : World, T W → Below W.heap.size W W' → T W')) (n a0 a1 b1 p q r s : Nat) (k : Int) (hk : (k == 65535) = false) (h1 : ((a1 : Int) == (b1 : Int)) = false) (h2 : ¬ (a1 : Int) = (b1 : Int)) (h3 : ¬ a1 = b1)
    (CD : Hide (∀ W : World, Calls Tryd.prog 10 #[.int .u8 (n : Int)] W fun e W' => e = .returned (.int .i64 8) ∧ W' = W))
    (C0 : Hide (∀ W : World, T W → Calls Tryd.prog 11 #[.int .u8 32, .int .i64 8, vecV (a0, a1), vecV (a0, a1)] W fun e W' => e = .returned (vecE ((p, q), 0)) ∧ Below W.heap.size W W'))
    (C1 : Hide (∀ W : World, T W → Calls Tryd.prog 12 #[.int .i64 8, vecV (p, q)] W fun e W' => e = .returned (.tuple #[.int .u64 65535, .int .i64 0]) ∧ Below W.heap.size W W'))
    (C2 : Hide (∀ W : World, T W → Calls Tryd.prog 11 #[.int .u8 32, .int .i64 8, vecV (a0, a1), vecV (a0, b1)] W fun e W' => e = .returned (vecE ((r, s), 0)) ∧ Below W.heap.size W W'))
    (C3 : Hide (∀ W : World, T W → Calls Tryd.prog 12 #[.int .i64 8, vecV (r, s)] W fun e W' => e = .returned (.tuple #[.int .u64 k, .int .i64 0]) ∧ Below W.heap.size W W'))
    (C4 : Hide (∀ W : World, T W → Calls Tryd.prog 13 #[.int .i64 8, vecV (r, s)] W fun e W' => e = .returned (.tuple #[.bool false, .int .i64 0]) ∧ Below W.heap.size W W'))
    (CW : Hide (∀ W : World, T W → Calls Tryd.prog 9 #[] W fun e W' => e = .returned (.bool true) ∧ Below W.heap.size W W'))
    (W : World) (HT : Hide (T W)) :
    Calls Tryd.prog 4 #[.int .u8 (n : Int), vecV (a0, a1), vecV (a0, b1)] W fun e W' => e = .returned (.bool true) ∧ Below W.heap.size W W' := by
  obtain ⟨wa, hwa⟩ : ∃ wa, ((W.alloc (.cells #[.int .u64 (a0 : Int), .int .u64 (a1 : Int)] 24)).alloc (.cells #[.int .u64 (a0 : Int), .int .u64 (b1 : Int)] 24)) = wa := ⟨_, rfl⟩
  have Fa : Hide (VBlk wa (W.heap.size) (a0, a1)) := hide (by rw [← hwa]; exact alloc_past (alloc_at rfl))
  have Fb : Hide (VBlk wa (W.heap.size + 1) (a0, b1)) := hide (by rw [← hwa]; exact alloc_at (by simp))
  have B : Hide (Below W.heap.size W wa) := hide (by rw [← hwa]; exact ((Below.refl _ _).alloc (Nat.le_refl _) _).alloc (by simp) _)
  have HU := hide hwa
  clear hwa
  unfold vecE at C0 C2
  unfold vecV at C0 C1 C2 C3 C4 ⊢
  simp only at C0 C1 C2 C3 C4 ⊢
  go_enter Tryd.func4, Tryd.ntmps4
  go_wp2_with ((with_reducible refine (CD.out _).mono ?_); rintro e wq ⟨rfl, hww⟩; replace hww := hww.symm; subst hww)
  rw [HU.out]
  refine (C0.out _ (TL.out _ _ HT.out B.out)).mono ?_
  rintro e w0 ⟨rfl, hb⟩
  obtain ⟨u0, hu⟩ : ∃ u, w0.alloc (.cells #[.int .u64 (p : Int), .int .u64 (q : Int)] 24) = u := ⟨_, rfl⟩
  replace Fa := hide (show VBlk u0 _ _ by rw [← hu]; exact alloc_past (Fa.out.later hb Fa.out.lt))
  replace Fb := hide (show VBlk u0 _ _ by rw [← hu]; exact alloc_past (Fb.out.later hb Fb.out.lt))
  have X0 : Hide (VBlk u0 w0.heap.size (p, q)) := hide (by rw [← hu]; exact alloc_at rfl)
  replace B := hide (show Below W.heap.size W u0 by rw [← hu]; exact (B.out.trans (hb.mono B.out.size)).alloc (Nat.le_trans B.out.size hb.size) _)
  replace HU := hide hu
  clear hb hu
  go_wp2_with fail
  rw [HU.out]
  refine (C1.out _ (TL.out _ _ HT.out B.out)).mono ?_
  rintro e w1 ⟨rfl, hb⟩
  replace Fa := hide (Fa.out.later hb Fa.out.lt)
  replace Fb := hide (Fb.out.later hb Fb.out.lt)
  replace X0 := hide (X0.out.later hb X0.out.lt)
  replace B := hide (B.out.trans (hb.mono B.out.size))
  have gFa0 := Fa.out.c0
  have gFa1 := Fa.out.c1
  have gFb0 := Fb.out.c0
  have gFb1 := Fb.out.c1
  simp only at gFa0 gFa1 gFb0 gFb1
  clear hb
  go_wp2_with fail
  clear gFa0 gFa1 gFb0 gFb1
  refine (C2.out _ (TL.out _ _ HT.out B.out)).mono ?_
  rintro e w2 ⟨rfl, hb⟩
  obtain ⟨u2, hu⟩ : ∃ u, w2.alloc (.cells #[.int .u64 (r : Int), .int .u64 (s : Int)] 24) = u := ⟨_, rfl⟩
  replace Fa := hide (show VBlk u2 _ _ by rw [← hu]; exact alloc_past (Fa.out.later hb Fa.out.lt))
  replace Fb := hide (show VBlk u2 _ _ by rw [← hu]; exact alloc_past (Fb.out.later hb Fb.out.lt))
  replace X0 := hide (show VBlk u2 _ _ by rw [← hu]; exact alloc_past (X0.out.later hb X0.out.lt))
  have X2 : Hide (VBlk u2 w2.heap.size (r, s)) := hide (by rw [← hu]; exact alloc_at rfl)
  replace B := hide (show Below W.heap.size W u2 by rw [← hu]; exact (B.out.trans (hb.mono B.out.size)).alloc (Nat.le_trans B.out.size hb.size) _)
  replace HU := hide hu
  clear hb hu
  go_wp2_with fail
  rw [HU.out]
  refine (C3.out _ (TL.out _ _ HT.out B.out)).mono ?_
  rintro e w3 ⟨rfl, hb⟩
  replace Fa := hide (Fa.out.later hb Fa.out.lt)
  replace Fb := hide (Fb.out.later hb Fb.out.lt)
  replace X0 := hide (X0.out.later hb X0.out.lt)
  replace X2 := hide (X2.out.later hb X2.out.lt)
  replace B := hide (B.out.trans (hb.mono B.out.size))
  have gX20 := X2.out.c0
  have gX21 := X2.out.c1
  simp only at gX20 gX21
  clear hb
  go_wp2_with fail
  clear gX20 gX21
  refine (C4.out _ (TL.out _ _ HT.out B.out)).mono ?_
  rintro e w4 ⟨rfl, hb⟩
  replace Fa := hide (Fa.out.later hb Fa.out.lt)
  replace Fb := hide (Fb.out.later hb Fb.out.lt)
  replace X0 := hide (X0.out.later hb X0.out.lt)
  replace X2 := hide (X2.out.later hb X2.out.lt)
  replace B := hide (B.out.trans (hb.mono B.out.size))
  have gFa0 := Fa.out.c0
  have gFa1 := Fa.out.c1
  have gFb0 := Fb.out.c0
  have gFb1 := Fb.out.c1
  simp only at gFa0 gFa1 gFb0 gFb1
  clear hb
  go_wp2_with fail
  clear gFa0 gFa1 gFb0 gFb1
  refine (CW.out _ (TL.out _ _ HT.out B.out)).mono ?_
  rintro e wz ⟨rfl, hb⟩
  replace B := hide (B.out.trans (hb.mono B.out.size))
  clear hb
  go_wp2
  go_ret
  exact ⟨rfl, B.out⟩

set_option maxHeartbeats 8000000 in
theorem vmasks_16_same (T : World → Prop) (TL : Hide (∀ W W' : World, T W → Below W.heap.size W W' → T W')) (n a0 a1 p q r s : Nat)
    (CD : Hide (∀ W : World, Calls Tryd.prog 10 #[.int .u8 (n : Int)] W fun e W' => e = .returned (.int .i64 16) ∧ W' = W))
    (C0 : Hide (∀ W : World, T W → Calls Tryd.prog 11 #[.int .u8 32, .int .i64 16, vecV (a0, a1), vecV (a0, a1)] W fun e W' => e = .returned (vecE ((p, q), 0)) ∧ Below W.heap.size W W'))
    (C1 : Hide (∀ W : World, T W → Calls Tryd.prog 12 #[.int .i64 16, vecV (p, q)] W fun e W' => e = .returned (.tuple #[.int .u64 255, .int .i64 0]) ∧ Below W.heap.size W W'))
    (C2 : Hide (∀ W : World, T W → Calls Tryd.prog 11 #[.int .u8 32, .int .i64 16, vecV (a0, a1), vecV (a0, a1)] W fun e W' => e = .returned (vecE ((r, s), 0)) ∧ Below W.heap.size W W'))
    (C3 : Hide (∀ W : World, T W → Calls Tryd.prog 12 #[.int .i64 16, vecV (r, s)] W fun e W' => e = .returned (.tuple #[.int .u64 255, .int .i64 0]) ∧ Below W.heap.size W W'))
    (C4 : Hide (∀ W : World, T W → Calls Tryd.prog 13 #[.int .i64 16, vecV (r, s)] W fun e W' => e = .returned (.tuple #[.bool true, .int .i64 0]) ∧ Below W.heap.size W W'))
    (CW : Hide (∀ W : World, T W → Calls Tryd.prog 9 #[] W fun e W' => e = .returned (.bool true) ∧ Below W.heap.size W W'))
    (W : World) (HT : Hide (T W)) :
    Calls Tryd.prog 4 #[.int .u8 (n : Int), vecV (a0, a1), vecV (a0, a1)] W fun e W' => e = .returned (.bool true) ∧ Below W.heap.size W W' := by
  obtain ⟨wa, hwa⟩ : ∃ wa, ((W.alloc (.cells #[.int .u64 (a0 : Int), .int .u64 (a1 : Int)] 24)).alloc (.cells #[.int .u64 (a0 : Int), .int .u64 (a1 : Int)] 24)) = wa := ⟨_, rfl⟩
  have Fa : Hide (VBlk wa (W.heap.size) (a0, a1)) := hide (by rw [← hwa]; exact alloc_past (alloc_at rfl))
  have Fb : Hide (VBlk wa (W.heap.size + 1) (a0, a1)) := hide (by rw [← hwa]; exact alloc_at (by simp))
  have B : Hide (Below W.heap.size W wa) := hide (by rw [← hwa]; exact ((Below.refl _ _).alloc (Nat.le_refl _) _).alloc (by simp) _)
  have HU := hide hwa
  clear hwa
  unfold vecE at C0 C2
  unfold vecV at C0 C1 C2 C3 C4 ⊢
  simp only at C0 C1 C2 C3 C4 ⊢
  go_enter Tryd.func4, Tryd.ntmps4
  go_wp2_with ((with_reducible refine (CD.out _).mono ?_); rintro e wq ⟨rfl, hww⟩; replace hww := hww.symm; subst hww)
  rw [HU.out]
  refine (C0.out _ (TL.out _ _ HT.out B.out)).mono ?_
  rintro e w0 ⟨rfl, hb⟩
  obtain ⟨u0, hu⟩ : ∃ u, w0.alloc (.cells #[.int .u64 (p : Int), .int .u64 (q : Int)] 24) = u := ⟨_, rfl⟩
  replace Fa := hide (show VBlk u0 _ _ by rw [← hu]; exact alloc_past (Fa.out.later hb Fa.out.lt))
  replace Fb := hide (show VBlk u0 _ _ by rw [← hu]; exact alloc_past (Fb.out.later hb Fb.out.lt))
  have X0 : Hide (VBlk u0 w0.heap.size (p, q)) := hide (by rw [← hu]; exact alloc_at rfl)
  replace B := hide (show Below W.heap.size W u0 by rw [← hu]; exact (B.out.trans (hb.mono B.out.size)).alloc (Nat.le_trans B.out.size hb.size) _)
  replace HU := hide hu
  clear hb hu
  go_wp2_with fail
  rw [HU.out]
  refine (C1.out _ (TL.out _ _ HT.out B.out)).mono ?_
  rintro e w1 ⟨rfl, hb⟩
  replace Fa := hide (Fa.out.later hb Fa.out.lt)
  replace Fb := hide (Fb.out.later hb Fb.out.lt)
  replace X0 := hide (X0.out.later hb X0.out.lt)
  replace B := hide (B.out.trans (hb.mono B.out.size))
  have gFa0 := Fa.out.c0
  have gFa1 := Fa.out.c1
  have gFb0 := Fb.out.c0
  have gFb1 := Fb.out.c1
  simp only at gFa0 gFa1 gFb0 gFb1
  clear hb
  go_wp2_with fail
  clear gFa0 gFa1 gFb0 gFb1
  refine (C2.out _ (TL.out _ _ HT.out B.out)).mono ?_
  rintro e w2 ⟨rfl, hb⟩
  obtain ⟨u2, hu⟩ : ∃ u, w2.alloc (.cells #[.int .u64 (r : Int), .int .u64 (s : Int)] 24) = u := ⟨_, rfl⟩
  replace Fa := hide (show VBlk u2 _ _ by rw [← hu]; exact alloc_past (Fa.out.later hb Fa.out.lt))
  replace Fb := hide (show VBlk u2 _ _ by rw [← hu]; exact alloc_past (Fb.out.later hb Fb.out.lt))
  replace X0 := hide (show VBlk u2 _ _ by rw [← hu]; exact alloc_past (X0.out.later hb X0.out.lt))
  have X2 : Hide (VBlk u2 w2.heap.size (r, s)) := hide (by rw [← hu]; exact alloc_at rfl)
  replace B := hide (show Below W.heap.size W u2 by rw [← hu]; exact (B.out.trans (hb.mono B.out.size)).alloc (Nat.le_trans B.out.size hb.size) _)
  replace HU := hide hu
  clear hb hu
  go_wp2_with fail
  rw [HU.out]
  refine (C3.out _ (TL.out _ _ HT.out B.out)).mono ?_
  rintro e w3 ⟨rfl, hb⟩
  replace Fa := hide (Fa.out.later hb Fa.out.lt)
  replace Fb := hide (Fb.out.later hb Fb.out.lt)
  replace X0 := hide (X0.out.later hb X0.out.lt)
  replace X2 := hide (X2.out.later hb X2.out.lt)
  replace B := hide (B.out.trans (hb.mono B.out.size))
  have gX20 := X2.out.c0
  have gX21 := X2.out.c1
  simp only at gX20 gX21
  clear hb
  go_wp2_with fail
  clear gX20 gX21
  refine (C4.out _ (TL.out _ _ HT.out B.out)).mono ?_
  rintro e w4 ⟨rfl, hb⟩
  replace Fa := hide (Fa.out.later hb Fa.out.lt)
  replace Fb := hide (Fb.out.later hb Fb.out.lt)
  replace X0 := hide (X0.out.later hb X0.out.lt)
  replace X2 := hide (X2.out.later hb X2.out.lt)
  replace B := hide (B.out.trans (hb.mono B.out.size))
  have gFa0 := Fa.out.c0
  have gFa1 := Fa.out.c1
  have gFb0 := Fb.out.c0
  have gFb1 := Fb.out.c1
  simp only at gFa0 gFa1 gFb0 gFb1
  clear hb
  go_wp2_with fail
  clear gFa0 gFa1 gFb0 gFb1
  refine (CW.out _ (TL.out _ _ HT.out B.out)).mono ?_
  rintro e wz ⟨rfl, hb⟩
  replace B := hide (B.out.trans (hb.mono B.out.size))
  clear hb
  go_wp2
  go_ret
  exact ⟨rfl, B.out⟩

set_option maxHeartbeats 8000000 in
theorem vmasks_16_other1 (T : World → Prop) (TL : Hide (∀ W W' : World, T W → Below W.heap.size W W' → T W')) (n a0 a1 b0 b1 p q r s : Nat) (k : Int) (hk : (k == 255) = false) (h1 : ((a0 : Int) == (b0 : Int)) = false) (h2 : ¬ (a0 : Int) = (b0 : Int)) (h3 : ¬ a0 = b0)
    (CD : Hide (∀ W : World, Calls Tryd.prog 10 #[.int .u8 (n : Int)] W fun e W' => e = .returned (.int .i64 16) ∧ W' = W))
    (C0 : Hide (∀ W : World, T W → Calls Tryd.prog 11 #[.int .u8 32, .int .i64 16, vecV (a0, a1), vecV (a0, a1)] W fun e W' => e = .returned (vecE ((p, q), 0)) ∧ Below W.heap.size W W'))
    (C1 : Hide (∀ W : World, T W → Calls Tryd.prog 12 #[.int .i64 16, vecV (p, q)] W fun e W' => e = .returned (.tuple #[.int .u64 255, .int .i64 0]) ∧ Below W.heap.size W W'))
    (C2 : Hide (∀ W : World, T W → Calls Tryd.prog 11 #[.int .u8 32, .int .i64 16, vecV (a0, a1), vecV (b0, b1)] W fun e W' => e = .returned (vecE ((r, s), 0)) ∧ Below W.heap.size W W'))
    (C3 : Hide (∀ W : World, T W → Calls Tryd.prog 12 #[.int .i64 16, vecV (r, s)] W fun e W' => e = .returned (.tuple #[.int .u64 k, .int .i64 0]) ∧ Below W.heap.size W W'))
    (C4 : Hide (∀ W : World, T W → Calls Tryd.prog 13 #[.int .i64 16, vecV (r, s)] W fun e W' => e = .returned (.tuple #[.bool false, .int .i64 0]) ∧ Below W.heap.size W W'))
    (CW : Hide (∀ W : World, T W → Calls Tryd.prog 9 #[] W fun e W' => e = .returned (.bool true) ∧ Below W.heap.size W W'))
    (W : World) (HT : Hide (T W)) :
    Calls Tryd.prog 4 #[.int .u8 (n : Int), vecV (a0, a1), vecV (b0, b1)] W fun e W' => e = .returned (.bool true) ∧ Below W.heap.size W W' := by
  obtain ⟨wa, hwa⟩ : ∃ wa, ((W.alloc (.cells #[.int .u64 (a0 : Int), .int .u64 (a1 : Int)] 24)).alloc (.cells #[.int .u64 (b0 : Int), .int .u64 (b1 : Int)] 24)) = wa := ⟨_, rfl⟩
  have Fa : Hide (VBlk wa (W.heap.size) (a0, a1)) := hide (by rw [← hwa]; exact alloc_past (alloc_at rfl))
  have Fb : Hide (VBlk wa (W.heap.size + 1) (b0, b1)) := hide (by rw [← hwa]; exact alloc_at (by simp))
  have B : Hide (Below W.heap.size W wa) := hide (by rw [← hwa]; exact ((Below.refl _ _).alloc (Nat.le_refl _) _).alloc (by simp) _)
  have HU := hide hwa
  clear hwa
  unfold vecE at C0 C2
  unfold vecV at C0 C1 C2 C3 C4 ⊢
  simp only at C0 C1 C2 C3 C4 ⊢
  go_enter Tryd.func4, Tryd.ntmps4
  go_wp2_with ((with_reducible refine (CD.out _).mono ?_); rintro e wq ⟨rfl, hww⟩; replace hww := hww.symm; subst hww)
  rw [HU.out]
  refine (C0.out _ (TL.out _ _ HT.out B.out)).mono ?_
  rintro e w0 ⟨rfl, hb⟩
  obtain ⟨u0, hu⟩ : ∃ u, w0.alloc (.cells #[.int .u64 (p : Int), .int .u64 (q : Int)] 24) = u := ⟨_, rfl⟩
  replace Fa := hide (show VBlk u0 _ _ by rw [← hu]; exact alloc_past (Fa.out.later hb Fa.out.lt))
  replace Fb := hide (show VBlk u0 _ _ by rw [← hu]; exact alloc_past (Fb.out.later hb Fb.out.lt))
  have X0 : Hide (VBlk u0 w0.heap.size (p, q)) := hide (by rw [← hu]; exact alloc_at rfl)
  replace B := hide (show Below W.heap.size W u0 by rw [← hu]; exact (B.out.trans (hb.mono B.out.size)).alloc (Nat.le_trans B.out.size hb.size) _)
  replace HU := hide hu
  clear hb hu
  go_wp2_with fail
  rw [HU.out]
  refine (C1.out _ (TL.out _ _ HT.out B.out)).mono ?_
  rintro e w1 ⟨rfl, hb⟩
  replace Fa := hide (Fa.out.later hb Fa.out.lt)
  replace Fb := hide (Fb.out.later hb Fb.out.lt)
  replace X0 := hide (X0.out.later hb X0.out.lt)
  replace B := hide (B.out.trans (hb.mono B.out.size))
  have gFa0 := Fa.out.c0
  have gFa1 := Fa.out.c1
  have gFb0 := Fb.out.c0
  have gFb1 := Fb.out.c1
  simp only at gFa0 gFa1 gFb0 gFb1
  clear hb
  go_wp2_with fail
  clear gFa0 gFa1 gFb0 gFb1
  refine (C2.out _ (TL.out _ _ HT.out B.out)).mono ?_
  rintro e w2 ⟨rfl, hb⟩
  obtain ⟨u2, hu⟩ : ∃ u, w2.alloc (.cells #[.int .u64 (r : Int), .int .u64 (s : Int)] 24) = u := ⟨_, rfl⟩
  replace Fa := hide (show VBlk u2 _ _ by rw [← hu]; exact alloc_past (Fa.out.later hb Fa.out.lt))
  replace Fb := hide (show VBlk u2 _ _ by rw [← hu]; exact alloc_past (Fb.out.later hb Fb.out.lt))
  replace X0 := hide (show VBlk u2 _ _ by rw [← hu]; exact alloc_past (X0.out.later hb X0.out.lt))
  have X2 : Hide (VBlk u2 w2.heap.size (r, s)) := hide (by rw [← hu]; exact alloc_at rfl)
  replace B := hide (show Below W.heap.size W u2 by rw [← hu]; exact (B.out.trans (hb.mono B.out.size)).alloc (Nat.le_trans B.out.size hb.size) _)
  replace HU := hide hu
  clear hb hu
  go_wp2_with fail
  rw [HU.out]
  refine (C3.out _ (TL.out _ _ HT.out B.out)).mono ?_
  rintro e w3 ⟨rfl, hb⟩
  replace Fa := hide (Fa.out.later hb Fa.out.lt)
  replace Fb := hide (Fb.out.later hb Fb.out.lt)
  replace X0 := hide (X0.out.later hb X0.out.lt)
  replace X2 := hide (X2.out.later hb X2.out.lt)
  replace B := hide (B.out.trans (hb.mono B.out.size))
  have gX20 := X2.out.c0
  have gX21 := X2.out.c1
  simp only at gX20 gX21
  clear hb
  go_wp2_with fail
  clear gX20 gX21
  refine (C4.out _ (TL.out _ _ HT.out B.out)).mono ?_
  rintro e w4 ⟨rfl, hb⟩
  replace Fa := hide (Fa.out.later hb Fa.out.lt)
  replace Fb := hide (Fb.out.later hb Fb.out.lt)
  replace X0 := hide (X0.out.later hb X0.out.lt)
  replace X2 := hide (X2.out.later hb X2.out.lt)
  replace B := hide (B.out.trans (hb.mono B.out.size))
  have gFa0 := Fa.out.c0
  have gFa1 := Fa.out.c1
  have gFb0 := Fb.out.c0
  have gFb1 := Fb.out.c1
  simp only at gFa0 gFa1 gFb0 gFb1
  clear hb
  go_wp2_with fail
  clear gFa0 gFa1 gFb0 gFb1
  refine (CW.out _ (TL.out _ _ HT.out B.out)).mono ?_
  rintro e wz ⟨rfl, hb⟩
  replace B := hide (B.out.trans (hb.mono B.out.size))
  clear hb
  go_wp2
  go_ret
  exact ⟨rfl, B.out⟩

set_option maxHeartbeats 8000000 in
theorem vmasks_16_other2 (T : World → Prop) (TL : Hide (∀ W W' : World, T W → Below W.heap.size W W' → T W')) (n a0 a1 b1 p q r s : Nat) (k : Int) (hk : (k == 255) = false) (h1 : ((a1 : Int) == (b1 : Int)) = false) (h2 : ¬ (a1 : Int) = (b1 : Int)) (h3 : ¬ a1 = b1)
    (CD : Hide (∀ W : World, Calls Tryd.prog 10 #[.int .u8 (n : Int)] W fun e W' => e = .returned (.int .i64 16) ∧ W' = W))
    (C0 : Hide (∀ W : World, T W → Calls Tryd.prog 11 #[.int .u8 32, .int .i64 16, vecV (a0, a1), vecV (a0, a1)] W fun e W' => e = .returned (vecE ((p, q), 0)) ∧ Below W.heap.size W W'))
    (C1 : Hide (∀ W : World, T W → Calls Tryd.prog 12 #[.int .i64 16, vecV (p, q)] W fun e W' => e = .returned (.tuple #[.int .u64 255, .int .i64 0]) ∧ Below W.heap.size W W'))
    (C2 : Hide (∀ W : World, T W → Calls Tryd.prog 11 #[.int .u8 32, .int .i64 16, vecV (a0, a1), vecV (a0, b1)] W fun e W' => e = .returned (vecE ((r, s), 0)) ∧ Below W.heap.size W W'))
    (C3 : Hide (∀ W : World, T W → Calls Tryd.prog 12 #[.int .i64 16, vecV (r, s)] W fun e W' => e = .returned (.tuple #[.int .u64 k, .int .i64 0]) ∧ Below W.heap.size W W'))
    (C4 : Hide (∀ W : World, T W → Calls Tryd.prog 13 #[.int .i64 16, vecV (r, s)] W fun e W' => e = .returned (.tuple #[.bool false, .int .i64 0]) ∧ Below W.heap.size W W'))
    (CW : Hide (∀ W : World, T W → Calls Tryd.prog 9 #[] W fun e W' => e = .returned (.bool true) ∧ Below W.heap.size W W'))
    (W : World) (HT : Hide (T W)) :
    Calls Tryd.prog 4 #[.int .u8 (n : Int), vecV (a0, a1), vecV (a0, b1)] W fun e W' => e = .returned (.bool true) ∧ Below W.heap.size W W' := by
  obtain ⟨wa, hwa⟩ : ∃ wa, ((W.alloc (.cells #[.int .u64 (a0 : Int), .int .u64 (a1 : Int)] 24)).alloc (.cells #[.int .u64 (a0 : Int), .int .u64 (b1 : Int)] 24)) = wa := ⟨_, rfl⟩
  have Fa : Hide (VBlk wa (W.heap.size) (a0, a1)) := hide (by rw [← hwa]; exact alloc_past (alloc_at rfl))
  have Fb : Hide (VBlk wa (W.heap.size + 1) (a0, b1)) := hide (by rw [← hwa]; exact alloc_at (by simp))
  have B : Hide (Below W.heap.size W wa) := hide (by rw [← hwa]; exact ((Below.refl _ _).alloc (Nat.le_refl _) _).alloc (by simp) _)
  have HU := hide hwa
  clear hwa
  unfold vecE at C0 C2
  unfold vecV at C0 C1 C2 C3 C4 ⊢
  simp only at C0 C1 C2 C3 C4 ⊢
  go_enter Tryd.func4, Tryd.ntmps4
  go_wp2_with ((with_reducible refine (CD.out _).mono ?_); rintro e wq ⟨rfl, hww⟩; replace hww := hww.symm; subst hww)
  rw [HU.out]
  refine (C0.out _ (TL.out _ _ HT.out B.out)).mono ?_
  rintro e w0 ⟨rfl, hb⟩
  obtain ⟨u0, hu⟩ : ∃ u, w0.alloc (.cells #[.int .u64 (p : Int), .int .u64 (q : Int)] 24) = u := ⟨_, rfl⟩
  replace Fa := hide (show VBlk u0 _ _ by rw [← hu]; exact alloc_past (Fa.out.later hb Fa.out.lt))
  replace Fb := hide (show VBlk u0 _ _ by rw [← hu]; exact alloc_past (Fb.out.later hb Fb.out.lt))
  have X0 : Hide (VBlk u0 w0.heap.size (p, q)) := hide (by rw [← hu]; exact alloc_at rfl)
  replace B := hide (show Below W.heap.size W u0 by rw [← hu]; exact (B.out.trans (hb.mono B.out.size)).alloc (Nat.le_trans B.out.size hb.size) _)
  replace HU := hide hu
  clear hb hu
  go_wp2_with fail
  rw [HU.out]
  refine (C1.out _ (TL.out _ _ HT.out B.out)).mono ?_
  rintro e w1 ⟨rfl, hb⟩
  replace Fa := hide (Fa.out.later hb Fa.out.lt)
  replace Fb := hide (Fb.out.later hb Fb.out.lt)
  replace X0 := hide (X0.out.later hb X0.out.lt)
  replace B := hide (B.out.trans (hb.mono B.out.size))
  have gFa0 := Fa.out.c0
  have gFa1 := Fa.out.c1
  have gFb0 := Fb.out.c0
  have gFb1 := Fb.out.c1
  simp only at gFa0 gFa1 gFb0 gFb1
  clear hb
  go_wp2_with fail
  clear gFa0 gFa1 gFb0 gFb1
  refine (C2.out _ (TL.out _ _ HT.out B.out)).mono ?_
  rintro e w2 ⟨rfl, hb⟩
  obtain ⟨u2, hu⟩ : ∃ u, w2.alloc (.cells #[.int .u64 (r : Int), .int .u64 (s : Int)] 24) = u := ⟨_, rfl⟩
  replace Fa := hide (show VBlk u2 _ _ by rw [← hu]; exact alloc_past (Fa.out.later hb Fa.out.lt))
  replace Fb := hide (show VBlk u2 _ _ by rw [← hu]; exact alloc_past (Fb.out.later hb Fb.out.lt))
  replace X0 := hide (show VBlk u2 _ _ by rw [← hu]; exact alloc_past (X0.out.later hb X0.out.lt))
  have X2 : Hide (VBlk u2 w2.heap.size (r, s)) := hide (by rw [← hu]; exact alloc_at rfl)
  replace B := hide (show Below W.heap.size W u2 by rw [← hu]; exact (B.out.trans (hb.mono B.out.size)).alloc (Nat.le_trans B.out.size hb.size) _)
  replace HU := hide hu
  clear hb hu
  go_wp2_with fail
  rw [HU.out]
  refine (C3.out _ (TL.out _ _ HT.out B.out)).mono ?_
  rintro e w3 ⟨rfl, hb⟩
  replace Fa := hide (Fa.out.later hb Fa.out.lt)
  replace Fb := hide (Fb.out.later hb Fb.out.lt)
  replace X0 := hide (X0.out.later hb X0.out.lt)
  replace X2 := hide (X2.out.later hb X2.out.lt)
  replace B := hide (B.out.trans (hb.mono B.out.size))
  have gX20 := X2.out.c0
  have gX21 := X2.out.c1
  simp only at gX20 gX21
  clear hb
  go_wp2_with fail
  clear gX20 gX21
  refine (C4.out _ (TL.out _ _ HT.out B.out)).mono ?_
  rintro e w4 ⟨rfl, hb⟩
  replace Fa := hide (Fa.out.later hb Fa.out.lt)
  replace Fb := hide (Fb.out.later hb Fb.out.lt)
  replace X0 := hide (X0.out.later hb X0.out.lt)
  replace X2 := hide (X2.out.later hb X2.out.lt)
  replace B := hide (B.out.trans (hb.mono B.out.size))
  have gFa0 := Fa.out.c0
  have gFa1 := Fa.out.c1
  have gFb0 := Fb.out.c0
  have gFb1 := Fb.out.c1
  simp only at gFa0 gFa1 gFb0 gFb1
  clear hb
  go_wp2_with fail
  clear gFa0 gFa1 gFb0 gFb1
  refine (CW.out _ (TL.out _ _ HT.out B.out)).mono ?_
  rintro e wz ⟨rfl, hb⟩
  replace B := hide (B.out.trans (hb.mono B.out.size))
  clear hb
  go_wp2
  go_ret
  exact ⟨rfl, B.out⟩

set_option maxHeartbeats 8000000 in
theorem vmasks_32_same (T : World → Prop) (TL : Hide (∀ W W' : World, T W → Below W.heap.size W W' → T W')) (n a0 a1 p q r s : Nat)
    (CD : Hide (∀ W : World, Calls Tryd.prog 10 #[.int .u8 (n : Int)] W fun e W' => e = .returned (.int .i64 32) ∧ W' = W))
    (C0 : Hide (∀ W : World, T W → Calls Tryd.prog 11 #[.int .u8 32, .int .i64 32, vecV (a0, a1), vecV (a0, a1)] W fun e W' => e = .returned (vecE ((p, q), 0)) ∧ Below W.heap.size W W'))
    (C1 : Hide (∀ W : World, T W → Calls Tryd.prog 12 #[.int .i64 32, vecV (p, q)] W fun e W' => e = .returned (.tuple #[.int .u64 15, .int .i64 0]) ∧ Below W.heap.size W W'))
    (C2 : Hide (∀ W : World, T W → Calls Tryd.prog 11 #[.int .u8 32, .int .i64 32, vecV (a0, a1), vecV (a0, a1)] W fun e W' => e = .returned (vecE ((r, s), 0)) ∧ Below W.heap.size W W'))
    (C3 : Hide (∀ W : World, T W → Calls Tryd.prog 12 #[.int .i64 32, vecV (r, s)] W fun e W' => e = .returned (.tuple #[.int .u64 15, .int .i64 0]) ∧ Below W.heap.size W W'))
    (C4 : Hide (∀ W : World, T W → Calls Tryd.prog 13 #[.int .i64 32, vecV (r, s)] W fun e W' => e = .returned (.tuple #[.bool true, .int .i64 0]) ∧ Below W.heap.size W W'))
    (CW : Hide (∀ W : World, T W → Calls Tryd.prog 9 #[] W fun e W' => e = .returned (.bool true) ∧ Below W.heap.size W W'))
    (W : World) (HT : Hide (T W)) :
    Calls Tryd.prog 4 #[.int .u8 (n : Int), vecV (a0, a1), vecV (a0, a1)] W fun e W' => e = .returned (.bool true) ∧ Below W.heap.size W W' := by
  obtain ⟨wa, hwa⟩ : ∃ wa, ((W.alloc (.cells #[.int .u64 (a0 : Int), .int .u64 (a1 : Int)] 24)).alloc (.cells #[.int .u64 (a0 : Int), .int .u64 (a1 : Int)] 24)) = wa := ⟨_, rfl⟩
  have Fa : Hide (VBlk wa (W.heap.size) (a0, a1)) := hide (by rw [← hwa]; exact alloc_past (alloc_at rfl))
  have Fb : Hide (VBlk wa (W.heap.size + 1) (a0, a1)) := hide (by rw [← hwa]; exact alloc_at (by simp))
  have B : Hide (Below W.heap.size W wa) := hide (by rw [← hwa]; exact ((Below.refl _ _).alloc (Nat.le_refl _) _).alloc (by simp) _)
  have HU := hide hwa
  clear hwa
  unfold vecE at C0 C2
  unfold vecV at C0 C1 C2 C3 C4 ⊢
  simp only at C0 C1 C2 C3 C4 ⊢
  go_enter Tryd.func4, Tryd.ntmps4
  go_wp2_with ((with_reducible refine (CD.out _).mono ?_); rintro e wq ⟨rfl, hww⟩; replace hww := hww.symm; subst hww)
  rw [HU.out]
  refine (C0.out _ (TL.out _ _ HT.out B.out)).mono ?_
  rintro e w0 ⟨rfl, hb⟩
  obtain ⟨u0, hu⟩ : ∃ u, w0.alloc (.cells #[.int .u64 (p : Int), .int .u64 (q : Int)] 24) = u := ⟨_, rfl⟩
  replace Fa := hide (show VBlk u0 _ _ by rw [← hu]; exact alloc_past (Fa.out.later hb Fa.out.lt))
  replace Fb := hide (show VBlk u0 _ _ by rw [← hu]; exact alloc_past (Fb.out.later hb Fb.out.lt))
  have X0 : Hide (VBlk u0 w0.heap.size (p, q)) := hide (by rw [← hu]; exact alloc_at rfl)
  replace B := hide (show Below W.heap.size W u0 by rw [← hu]; exact (B.out.trans (hb.mono B.out.size)).alloc (Nat.le_trans B.out.size hb.size) _)
  replace HU := hide hu
  clear hb hu
  go_wp2_with fail
  rw [HU.out]
  refine (C1.out _ (TL.out _ _ HT.out B.out)).mono ?_
  rintro e w1 ⟨rfl, hb⟩
  replace Fa := hide (Fa.out.later hb Fa.out.lt)
  replace Fb := hide (Fb.out.later hb Fb.out.lt)
  replace X0 := hide (X0.out.later hb X0.out.lt)
  replace B := hide (B.out.trans (hb.mono B.out.size))
  have gFa0 := Fa.out.c0
  have gFa1 := Fa.out.c1
  have gFb0 := Fb.out.c0
  have gFb1 := Fb.out.c1
  simp only at gFa0 gFa1 gFb0 gFb1
  clear hb
  go_wp2_with fail
  clear gFa0 gFa1 gFb0 gFb1
  refine (C2.out _ (TL.out _ _ HT.out B.out)).mono ?_
  rintro e w2 ⟨rfl, hb⟩
  obtain ⟨u2, hu⟩ : ∃ u, w2.alloc (.cells #[.int .u64 (r : Int), .int .u64 (s : Int)] 24) = u := ⟨_, rfl⟩
  replace Fa := hide (show VBlk u2 _ _ by rw [← hu]; exact alloc_past (Fa.out.later hb Fa.out.lt))
  replace Fb := hide (show VBlk u2 _ _ by rw [← hu]; exact alloc_past (Fb.out.later hb Fb.out.lt))
  replace X0 := hide (show VBlk u2 _ _ by rw [← hu]; exact alloc_past (X0.out.later hb X0.out.lt))
  have X2 : Hide (VBlk u2 w2.heap.size (r, s)) := hide (by rw [← hu]; exact alloc_at rfl)
  replace B := hide (show Below W.heap.size W u2 by rw [← hu]; exact (B.out.trans (hb.mono B.out.size)).alloc (Nat.le_trans B.out.size hb.size) _)
  replace HU := hide hu
  clear hb hu
  go_wp2_with fail
  rw [HU.out]
  refine (C3.out _ (TL.out _ _ HT.out B.out)).mono ?_
  rintro e w3 ⟨rfl, hb⟩
  replace Fa := hide (Fa.out.later hb Fa.out.lt)
  replace Fb := hide (Fb.out.later hb Fb.out.lt)
  replace X0 := hide (X0.out.later hb X0.out.lt)
  replace X2 := hide (X2.out.later hb X2.out.lt)
  replace B := hide (B.out.trans (hb.mono B.out.size))
  have gX20 := X2.out.c0
  have gX21 := X2.out.c1
  simp only at gX20 gX21
  clear hb
  go_wp2_with fail
  clear gX20 gX21
  refine (C4.out _ (TL.out _ _ HT.out B.out)).mono ?_
  rintro e w4 ⟨rfl, hb⟩
  replace Fa := hide (Fa.out.later hb Fa.out.lt)
  replace Fb := hide (Fb.out.later hb Fb.out.lt)
  replace X0 := hide (X0.out.later hb X0.out.lt)
  replace X2 := hide (X2.out.later hb X2.out.lt)
  replace B := hide (B.out.trans (hb.mono B.out.size))
  have gFa0 := Fa.out.c0
  have gFa1 := Fa.out.c1
  have gFb0 := Fb.out.c0
  have gFb1 := Fb.out.c1
  simp only at gFa0 gFa1 gFb0 gFb1
  clear hb
  go_wp2_with fail
  clear gFa0 gFa1 gFb0 gFb1
  refine (CW.out _ (TL.out _ _ HT.out B.out)).mono ?_
  rintro e wz ⟨rfl, hb⟩
  replace B := hide (B.out.trans (hb.mono B.out.size))
  clear hb
  go_wp2
  go_ret
  exact ⟨rfl, B.out⟩

set_option maxHeartbeats 8000000 in
theorem vmasks_32_other1 (T : World → Prop) (TL : Hide (∀ W W' : World, T W → Below W.heap.size W W' → T W')) (n a0 a1 b0 b1 p q r s : Nat) (k : Int) (hk : (k == 15) = false) (h1 : ((a0 : Int) == (b0 : Int)) = false) (h2 : ¬ (a0 : Int) = (b0 : Int)) (h3 : ¬ a0 = b0)
    (CD : Hide (∀ W : World, Calls Tryd.prog 10 #[.int .u8 (n : Int)] W fun e W' => e = .returned (.int .i64 32) ∧ W' = W))
    (C0 : Hide (∀ W : World, T W → Calls Tryd.prog 11 #[.int .u8 32, .int .i64 32, vecV (a0, a1), vecV (a0, a1)] W fun e W' => e = .returned (vecE ((p, q), 0)) ∧ Below W.heap.size W W'))
    (C1 : Hide (∀ W : World, T W → Calls Tryd.prog 12 #[.int .i64 32, vecV (p, q)] W fun e W' => e = .returned (.tuple #[.int .u64 15, .int .i64 0]) ∧ Below W.heap.size W W'))
    (C2 : Hide (∀ W : World, T W → Calls Tryd.prog 11 #[.int .u8 32, .int .i64 32, vecV (a0, a1), vecV (b0, b1)] W fun e W' => e = .returned (vecE ((r, s), 0)) ∧ Below W.heap.size W W'))
    (C3 : Hide (∀ W : World, T W → Calls Tryd.prog 12 #[.int .i64 32, vecV (r, s)] W fun e W' => e = .returned (.tuple #[.int .u64 k, .int .i64 0]) ∧ Below W.heap.size W W'))
    (C4 : Hide (∀ W : World, T W → Calls Tryd.prog 13 #[.int .i64 32, vecV (r, s)] W fun e W' => e = .returned (.tuple #[.bool false, .int .i64 0]) ∧ Below W.heap.size W W'))
    (CW : Hide (∀ W : World, T W → Calls Tryd.prog 9 #[] W fun e W' => e = .returned (.bool true) ∧ Below W.heap.size W W'))
    (W : World) (HT : Hide (T W)) :
    Calls Tryd.prog 4 #[.int .u8 (n : Int), vecV (a0, a1), vecV (b0, b1)] W fun e W' => e = .returned (.bool true) ∧ Below W.heap.size W W' := by
  obtain ⟨wa, hwa⟩ : ∃ wa, ((W.alloc (.cells #[.int .u64 (a0 : Int), .int .u64 (a1 : Int)] 24)).alloc (.cells #[.int .u64 (b0 : Int), .int .u64 (b1 : Int)] 24)) = wa := ⟨_, rfl⟩
  have Fa : Hide (VBlk wa (W.heap.size) (a0, a1)) := hide (by rw [← hwa]; exact alloc_past (alloc_at rfl))
  have Fb : Hide (VBlk wa (W.heap.size + 1) (b0, b1)) := hide (by rw [← hwa]; exact alloc_at (by simp))
  have B : Hide (Below W.heap.size W wa) := hide (by rw [← hwa]; exact ((Below.refl _ _).alloc (Nat.le_refl _) _).alloc (by simp) _)
  have HU := hide hwa
  clear hwa
  unfold vecE at C0 C2
  unfold vecV at C0 C1 C2 C3 C4 ⊢
  simp only at C0 C1 C2 C3 C4 ⊢
  go_enter Tryd.func4, Tryd.ntmps4
  go_wp2_with ((with_reducible refine (CD.out _).mono ?_); rintro e wq ⟨rfl, hww⟩; replace hww := hww.symm; subst hww)
  rw [HU.out]
  refine (C0.out _ (TL.out _ _ HT.out B.out)).mono ?_
  rintro e w0 ⟨rfl, hb⟩
  obtain ⟨u0, hu⟩ : ∃ u, w0.alloc (.cells #[.int .u64 (p : Int), .int .u64 (q : Int)] 24) = u := ⟨_, rfl⟩
  replace Fa := hide (show VBlk u0 _ _ by rw [← hu]; exact alloc_past (Fa.out.later hb Fa.out.lt))
  replace Fb := hide (show VBlk u0 _ _ by rw [← hu]; exact alloc_past (Fb.out.later hb Fb.out.lt))
  have X0 : Hide (VBlk u0 w0.heap.size (p, q)) := hide (by rw [← hu]; exact alloc_at rfl)
  replace B := hide (show Below W.heap.size W u0 by rw [← hu]; exact (B.out.trans (hb.mono B.out.size)).alloc (Nat.le_trans B.out.size hb.size) _)
  replace HU := hide hu
  clear hb hu
  go_wp2_with fail
  rw [HU.out]
  refine (C1.out _ (TL.out _ _ HT.out B.out)).mono ?_
  rintro e w1 ⟨rfl, hb⟩
  replace Fa := hide (Fa.out.later hb Fa.out.lt)
  replace Fb := hide (Fb.out.later hb Fb.out.lt)
  replace X0 := hide (X0.out.later hb X0.out.lt)
  replace B := hide (B.out.trans (hb.mono B.out.size))
  have gFa0 := Fa.out.c0
  have gFa1 := Fa.out.c1
  have gFb0 := Fb.out.c0
  have gFb1 := Fb.out.c1
  simp only at gFa0 gFa1 gFb0 gFb1
  clear hb
  go_wp2_with fail
  clear gFa0 gFa1 gFb0 gFb1
  refine (C2.out _ (TL.out _ _ HT.out B.out)).mono ?_
  rintro e w2 ⟨rfl, hb⟩
  obtain ⟨u2, hu⟩ : ∃ u, w2.alloc (.cells #[.int .u64 (r : Int), .int .u64 (s : Int)] 24) = u := ⟨_, rfl⟩
  replace Fa := hide (show VBlk u2 _ _ by rw [← hu]; exact alloc_past (Fa.out.later hb Fa.out.lt))
  replace Fb := hide (show VBlk u2 _ _ by rw [← hu]; exact alloc_past (Fb.out.later hb Fb.out.lt))
  replace X0 := hide (show VBlk u2 _ _ by rw [← hu]; exact alloc_past (X0.out.later hb X0.out.lt))
  have X2 : Hide (VBlk u2 w2.heap.size (r, s)) := hide (by rw [← hu]; exact alloc_at rfl)
  replace B := hide (show Below W.heap.size W u2 by rw [← hu]; exact (B.out.trans (hb.mono B.out.size)).alloc (Nat.le_trans B.out.size hb.size) _)
  replace HU := hide hu
  clear hb hu
  go_wp2_with fail
  rw [HU.out]
  refine (C3.out _ (TL.out _ _ HT.out B.out)).mono ?_
  rintro e w3 ⟨rfl, hb⟩
  replace Fa := hide (Fa.out.later hb Fa.out.lt)
  replace Fb := hide (Fb.out.later hb Fb.out.lt)
  replace X0 := hide (X0.out.later hb X0.out.lt)
  replace X2 := hide (X2.out.later hb X2.out.lt)
  replace B := hide (B.out.trans (hb.mono B.out.size))
  have gX20 := X2.out.c0
  have gX21 := X2.out.c1
  simp only at gX20 gX21
  clear hb
  go_wp2_with fail
  clear gX20 gX21
  refine (C4.out _ (TL.out _ _ HT.out B.out)).mono ?_
  rintro e w4 ⟨rfl, hb⟩
  replace Fa := hide (Fa.out.later hb Fa.out.lt)
  replace Fb := hide (Fb.out.later hb Fb.out.lt)
  replace X0 := hide (X0.out.later hb X0.out.lt)
  replace X2 := hide (X2.out.later hb X2.out.lt)
  replace B := hide (B.out.trans (hb.mono B.out.size))
  have gFa0 := Fa.out.c0
  have gFa1 := Fa.out.c1
  have gFb0 := Fb.out.c0
  have gFb1 := Fb.out.c1
  simp only at gFa0 gFa1 gFb0 gFb1
  clear hb
  go_wp2_with fail
  clear gFa0 gFa1 gFb0 gFb1
  refine (CW.out _ (TL.out _ _ HT.out B.out)).mono ?_
  rintro e wz ⟨rfl, hb⟩
  replace B := hide (B.out.trans (hb.mono B.out.size))
  clear hb
  go_wp2
  go_ret
  exact ⟨rfl, B.out⟩

set_option maxHeartbeats 8000000 in
theorem vmasks_32_other2 (T : World → Prop) (TL : Hide (∀ W W' : World, T W → Below W.heap.size W W' → T W')) (n a0 a1 b1 p q r s : Nat) (k : Int) (hk : (k == 15) = false) (h1 : ((a1 : Int) == (b1 : Int)) = false) (h2 : ¬ (a1 : Int) = (b1 : Int)) (h3 : ¬ a1 = b1)
    (CD : Hide (∀ W : World, Calls Tryd.prog 10 #[.int .u8 (n : Int)] W fun e W' => e = .returned (.int .i64 32) ∧ W' = W))
    (C0 : Hide (∀ W : World, T W → Calls Tryd.prog 11 #[.int .u8 32, .int .i64 32, vecV (a0, a1), vecV (a0, a1)] W fun e W' => e = .returned (vecE ((p, q), 0)) ∧ Below W.heap.size W W'))
    (C1 : Hide (∀ W : World, T W → Calls Tryd.prog 12 #[.int .i64 32, vecV (p, q)] W fun e W' => e = .returned (.tuple #[.int .u64 15, .int .i64 0]) ∧ Below W.heap.size W W'))
    (C2 : Hide (∀ W : World, T W → Calls Tryd.prog 11 #[.int .u8 32, .int .i64 32, vecV (a0, a1), vecV (a0, b1)] W fun e W' => e = .returned (vecE ((r, s), 0)) ∧ Below W.heap.size W W'))
    (C3 : Hide (∀ W : World, T W → Calls Tryd.prog 12 #[.int .i64 32, vecV (r, s)] W fun e W' => e = .returned (.tuple #[.int .u64 k, .int .i64 0]) ∧ Below W.heap.size W W'))
    (C4 : Hide (∀ W : World, T W → Calls Tryd.prog 13 #[.int .i64 32, vecV (r, s)] W fun e W' => e = .returned (.tuple #[.bool false, .int .i64 0]) ∧ Below W.heap.size W W'))
    (CW : Hide (∀ W : World, T W → Calls Tryd.prog 9 #[] W fun e W' => e = .returned (.bool true) ∧ Below W.heap.size W W'))
    (W : World) (HT : Hide (T W)) :
    Calls Tryd.prog 4 #[.int .u8 (n : Int), vecV (a0, a1), vecV (a0, b1)] W fun e W' => e = .returned (.bool true) ∧ Below W.heap.size W W' := by
  obtain ⟨wa, hwa⟩ : ∃ wa, ((W.alloc (.cells #[.int .u64 (a0 : Int), .int .u64 (a1 : Int)] 24)).alloc (.cells #[.int .u64 (a0 : Int), .int .u64 (b1 : Int)] 24)) = wa := ⟨_, rfl⟩
  have Fa : Hide (VBlk wa (W.heap.size) (a0, a1)) := hide (by rw [← hwa]; exact alloc_past (alloc_at rfl))
  have Fb : Hide (VBlk wa (W.heap.size + 1) (a0, b1)) := hide (by rw [← hwa]; exact alloc_at (by simp))
  have B : Hide (Below W.heap.size W wa) := hide (by rw [← hwa]; exact ((Below.refl _ _).alloc (Nat.le_refl _) _).alloc (by simp) _)
  have HU := hide hwa
  clear hwa
  unfold vecE at C0 C2
  unfold vecV at C0 C1 C2 C3 C4 ⊢
  simp only at C0 C1 C2 C3 C4 ⊢
  go_enter Tryd.func4, Tryd.ntmps4
  go_wp2_with ((with_reducible refine (CD.out _).mono ?_); rintro e wq ⟨rfl, hww⟩; replace hww := hww.symm; subst hww)
  rw [HU.out]
  refine (C0.out _ (TL.out _ _ HT.out B.out)).mono ?_
  rintro e w0 ⟨rfl, hb⟩
  obtain ⟨u0, hu⟩ : ∃ u, w0.alloc (.cells #[.int .u64 (p : Int), .int .u64 (q : Int)] 24) = u := ⟨_, rfl⟩
  replace Fa := hide (show VBlk u0 _ _ by rw [← hu]; exact alloc_past (Fa.out.later hb Fa.out.lt))
  replace Fb := hide (show VBlk u0 _ _ by rw [← hu]; exact alloc_past (Fb.out.later hb Fb.out.lt))
  have X0 : Hide (VBlk u0 w0.heap.size (p, q)) := hide (by rw [← hu]; exact alloc_at rfl)
  replace B := hide (show Below W.heap.size W u0 by rw [← hu]; exact (B.out.trans (hb.mono B.out.size)).alloc (Nat.le_trans B.out.size hb.size) _)
  replace HU := hide hu
  clear hb hu
  go_wp2_with fail
  rw [HU.out]
  refine (C1.out _ (TL.out _ _ HT.out B.out)).mono ?_
  rintro e w1 ⟨rfl, hb⟩
  replace Fa := hide (Fa.out.later hb Fa.out.lt)
  replace Fb := hide (Fb.out.later hb Fb.out.lt)
  replace X0 := hide (X0.out.later hb X0.out.lt)
  replace B := hide (B.out.trans (hb.mono B.out.size))
  have gFa0 := Fa.out.c0
  have gFa1 := Fa.out.c1
  have gFb0 := Fb.out.c0
  have gFb1 := Fb.out.c1
  simp only at gFa0 gFa1 gFb0 gFb1
  clear hb
  go_wp2_with fail
  clear gFa0 gFa1 gFb0 gFb1
  refine (C2.out _ (TL.out _ _ HT.out B.out)).mono ?_
  rintro e w2 ⟨rfl, hb⟩
  obtain ⟨u2, hu⟩ : ∃ u, w2.alloc (.cells #[.int .u64 (r : Int), .int .u64 (s : Int)] 24) = u := ⟨_, rfl⟩
  replace Fa := hide (show VBlk u2 _ _ by rw [← hu]; exact alloc_past (Fa.out.later hb Fa.out.lt))
  replace Fb := hide (show VBlk u2 _ _ by rw [← hu]; exact alloc_past (Fb.out.later hb Fb.out.lt))
  replace X0 := hide (show VBlk u2 _ _ by rw [← hu]; exact alloc_past (X0.out.later hb X0.out.lt))
  have X2 : Hide (VBlk u2 w2.heap.size (r, s)) := hide (by rw [← hu]; exact alloc_at rfl)
  replace B := hide (show Below W.heap.size W u2 by rw [← hu]; exact (B.out.trans (hb.mono B.out.size)).alloc (Nat.le_trans B.out.size hb.size) _)
  replace HU := hide hu
  clear hb hu
  go_wp2_with fail
  rw [HU.out]
  refine (C3.out _ (TL.out _ _ HT.out B.out)).mono ?_
  rintro e w3 ⟨rfl, hb⟩
  replace Fa := hide (Fa.out.later hb Fa.out.lt)
  replace Fb := hide (Fb.out.later hb Fb.out.lt)
  replace X0 := hide (X0.out.later hb X0.out.lt)
  replace X2 := hide (X2.out.later hb X2.out.lt)
  replace B := hide (B.out.trans (hb.mono B.out.size))
  have gX20 := X2.out.c0
  have gX21 := X2.out.c1
  simp only at gX20 gX21
  clear hb
  go_wp2_with fail
  clear gX20 gX21
  refine (C4.out _ (TL.out _ _ HT.out B.out)).mono ?_
  rintro e w4 ⟨rfl, hb⟩
  replace Fa := hide (Fa.out.later hb Fa.out.lt)
  replace Fb := hide (Fb.out.later hb Fb.out.lt)
  replace X0 := hide (X0.out.later hb X0.out.lt)
  replace X2 := hide (X2.out.later hb X2.out.lt)
  replace B := hide (B.out.trans (hb.mono B.out.size))
  have gFa0 := Fa.out.c0
  have gFa1 := Fa.out.c1
  have gFb0 := Fb.out.c0
  have gFb1 := Fb.out.c1
  simp only at gFa0 gFa1 gFb0 gFb1
  clear hb
  go_wp2_with fail
  clear gFa0 gFa1 gFb0 gFb1
  refine (CW.out _ (TL.out _ _ HT.out B.out)).mono ?_
  rintro e wz ⟨rfl, hb⟩
  replace B := hide (B.out.trans (hb.mono B.out.size))
  clear hb
  go_wp2
  go_ret
  exact ⟨rfl, B.out⟩

set_option maxHeartbeats 8000000 in
theorem vmasks_64_same (T : World → Prop) (TL : Hide (∀ W W' : World, T W → Below W.heap.size W W' → T W')) (n a0 a1 p q r s : Nat)
    (CD : Hide (∀ W : World, Calls Tryd.prog 10 #[.int .u8 (n : Int)] W fun e W' => e = .returned (.int .i64 64) ∧ W' = W))
    (C0 : Hide (∀ W : World, T W → Calls Tryd.prog 11 #[.int .u8 32, .int .i64 64, vecV (a0, a1), vecV (a0, a1)] W fun e W' => e = .returned (vecE ((p, q), 0)) ∧ Below W.heap.size W W'))
    (C1 : Hide (∀ W : World, T W → Calls Tryd.prog 12 #[.int .i64 64, vecV (p, q)] W fun e W' => e = .returned (.tuple #[.int .u64 3, .int .i64 0]) ∧ Below W.heap.size W W'))
    (C2 : Hide (∀ W : World, T W → Calls Tryd.prog 11 #[.int .u8 32, .int .i64 64, vecV (a0, a1), vecV (a0, a1)] W fun e W' => e = .returned (vecE ((r, s), 0)) ∧ Below W.heap.size W W'))
    (C3 : Hide (∀ W : World, T W → Calls Tryd.prog 12 #[.int .i64 64, vecV (r, s)] W fun e W' => e = .returned (.tuple #[.int .u64 3, .int .i64 0]) ∧ Below W.heap.size W W'))
    (C4 : Hide (∀ W : World, T W → Calls Tryd.prog 13 #[.int .i64 64, vecV (r, s)] W fun e W' => e = .returned (.tuple #[.bool true, .int .i64 0]) ∧ Below W.heap.size W W'))
    (CW : Hide (∀ W : World, T W → Calls Tryd.prog 9 #[] W fun e W' => e = .returned (.bool true) ∧ Below W.heap.size W W'))
    (W : World) (HT : Hide (T W)) :
    Calls Tryd.prog 4 #[.int .u8 (n : Int), vecV (a0, a1), vecV (a0, a1)] W fun e W' => e = .returned (.bool true) ∧ Below W.heap.size W W' := by
  obtain ⟨wa, hwa⟩ : ∃ wa, ((W.alloc (.cells #[.int .u64 (a0 : Int), .int .u64 (a1 : Int)] 24)).alloc (.cells #[.int .u64 (a0 : Int), .int .u64 (a1 : Int)] 24)) = wa := ⟨_, rfl⟩
  have Fa : Hide (VBlk wa (W.heap.size) (a0, a1)) := hide (by rw [← hwa]; exact alloc_past (alloc_at rfl))
  have Fb : Hide (VBlk wa (W.heap.size + 1) (a0, a1)) := hide (by rw [← hwa]; exact alloc_at (by simp))
  have B : Hide (Below W.heap.size W wa) := hide (by rw [← hwa]; exact ((Below.refl _ _).alloc (Nat.le_refl _) _).alloc (by simp) _)
  have HU := hide hwa
  clear hwa
  unfold vecE at C0 C2
  unfold vecV at C0 C1 C2 C3 C4 ⊢
  simp only at C0 C1 C2 C3 C4 ⊢
  go_enter Tryd.func4, Tryd.ntmps4
  go_wp2_with ((with_reducible refine (CD.out _).mono ?_); rintro e wq ⟨rfl, hww⟩; replace hww := hww.symm; subst hww)
  rw [HU.out]
  refine (C0.out _ (TL.out _ _ HT.out B.out)).mono ?_
  rintro e w0 ⟨rfl, hb⟩
  obtain ⟨u0, hu⟩ : ∃ u, w0.alloc (.cells #[.int .u64 (p : Int), .int .u64 (q : Int)] 24) = u := ⟨_, rfl⟩
  replace Fa := hide (show VBlk u0 _ _ by rw [← hu]; exact alloc_past (Fa.out.later hb Fa.out.lt))
  replace Fb := hide (show VBlk u0 _ _ by rw [← hu]; exact alloc_past (Fb.out.later hb Fb.out.lt))
  have X0 : Hide (VBlk u0 w0.heap.size (p, q)) := hide (by rw [← hu]; exact alloc_at rfl)
  replace B := hide (show Below W.heap.size W u0 by rw [← hu]; exact (B.out.trans (hb.mono B.out.size)).alloc (Nat.le_trans B.out.size hb.size) _)
  replace HU := hide hu
  clear hb hu
  go_wp2_with fail
  rw [HU.out]
  refine (C1.out _ (TL.out _ _ HT.out B.out)).mono ?_
  rintro e w1 ⟨rfl, hb⟩
  replace Fa := hide (Fa.out.later hb Fa.out.lt)
  replace Fb := hide (Fb.out.later hb Fb.out.lt)
  replace X0 := hide (X0.out.later hb X0.out.lt)
  replace B := hide (B.out.trans (hb.mono B.out.size))
  have gFa0 := Fa.out.c0
  have gFa1 := Fa.out.c1
  have gFb0 := Fb.out.c0
  have gFb1 := Fb.out.c1
  simp only at gFa0 gFa1 gFb0 gFb1
  clear hb
  go_wp2_with fail
  clear gFa0 gFa1 gFb0 gFb1
  refine (C2.out _ (TL.out _ _ HT.out B.out)).mono ?_
  rintro e w2 ⟨rfl, hb⟩
  obtain ⟨u2, hu⟩ : ∃ u, w2.alloc (.cells #[.int .u64 (r : Int), .int .u64 (s : Int)] 24) = u := ⟨_, rfl⟩
  replace Fa := hide (show VBlk u2 _ _ by rw [← hu]; exact alloc_past (Fa.out.later hb Fa.out.lt))
  replace Fb := hide (show VBlk u2 _ _ by rw [← hu]; exact alloc_past (Fb.out.later hb Fb.out.lt))
  replace X0 := hide (show VBlk u2 _ _ by rw [← hu]; exact alloc_past (X0.out.later hb X0.out.lt))
  have X2 : Hide (VBlk u2 w2.heap.size (r, s)) := hide (by rw [← hu]; exact alloc_at rfl)
  replace B := hide (show Below W.heap.size W u2 by rw [← hu]; exact (B.out.trans (hb.mono B.out.size)).alloc (Nat.le_trans B.out.size hb.size) _)
  replace HU := hide hu
  clear hb hu
  go_wp2_with fail
  rw [HU.out]
  refine (C3.out _ (TL.out _ _ HT.out B.out)).mono ?_
  rintro e w3 ⟨rfl, hb⟩
  replace Fa := hide (Fa.out.later hb Fa.out.lt)
  replace Fb := hide (Fb.out.later hb Fb.out.lt)
  replace X0 := hide (X0.out.later hb X0.out.lt)
  replace X2 := hide (X2.out.later hb X2.out.lt)
  replace B := hide (B.out.trans (hb.mono B.out.size))
  have gX20 := X2.out.c0
  have gX21 := X2.out.c1
  simp only at gX20 gX21
  clear hb
  go_wp2_with fail
  clear gX20 gX21
  refine (C4.out _ (TL.out _ _ HT.out B.out)).mono ?_
  rintro e w4 ⟨rfl, hb⟩
  replace Fa := hide (Fa.out.later hb Fa.out.lt)
  replace Fb := hide (Fb.out.later hb Fb.out.lt)
  replace X0 := hide (X0.out.later hb X0.out.lt)
  replace X2 := hide (X2.out.later hb X2.out.lt)
  replace B := hide (B.out.trans (hb.mono B.out.size))
  have gFa0 := Fa.out.c0
  have gFa1 := Fa.out.c1
  have gFb0 := Fb.out.c0
  have gFb1 := Fb.out.c1
  simp only at gFa0 gFa1 gFb0 gFb1
  clear hb
  go_wp2_with fail
  clear gFa0 gFa1 gFb0 gFb1
  refine (CW.out _ (TL.out _ _ HT.out B.out)).mono ?_
  rintro e wz ⟨rfl, hb⟩
  replace B := hide (B.out.trans (hb.mono B.out.size))
  clear hb
  go_wp2
  go_ret
  exact ⟨rfl, B.out⟩

set_option maxHeartbeats 8000000 in
theorem vmasks_64_other1 (T : World → Prop) (TL : Hide (∀ W W' : World, T W → Below W.heap.size W W' → T W')) (n a0 a1 b0 b1 p q r s : Nat) (k : Int) (hk : (k == 3) = false) (h1 : ((a0 : Int) == (b0 : Int)) = false) (h2 : ¬ (a0 : Int) = (b0 : Int)) (h3 : ¬ a0 = b0)
    (CD : Hide (∀ W : World, Calls Tryd.prog 10 #[.int .u8 (n : Int)] W fun e W' => e = .returned (.int .i64 64) ∧ W' = W))
    (C0 : Hide (∀ W : World, T W → Calls Tryd.prog 11 #[.int .u8 32, .int .i64 64, vecV (a0, a1), vecV (a0, a1)] W fun e W' => e = .returned (vecE ((p, q), 0)) ∧ Below W.heap.size W W'))
    (C1 : Hide (∀ W : World, T W → Calls Tryd.prog 12 #[.int .i64 64, vecV (p, q)] W fun e W' => e = .returned (.tuple #[.int .u64 3, .int .i64 0]) ∧ Below W.heap.size W W'))
    (C2 : Hide (∀ W : World, T W → Calls Tryd.prog 11 #[.int .u8 32, .int .i64 64, vecV (a0, a1), vecV (b0, b1)] W fun e W' => e = .returned (vecE ((r, s), 0)) ∧ Below W.heap.size W W'))
    (C3 : Hide (∀ W : World, T W → Calls Tryd.prog 12 #[.int .i64 64, vecV (r, s)] W fun e W' => e = .returned (.tuple #[.int .u64 k, .int .i64 0]) ∧ Below W.heap.size W W'))
    (C4 : Hide (∀ W : World, T W → Calls Tryd.prog 13 #[.int .i64 64, vecV (r, s)] W fun e W' => e = .returned (.tuple #[.bool false, .int .i64 0]) ∧ Below W.heap.size W W'))
    (CW : Hide (∀ W : World, T W → Calls Tryd.prog 9 #[] W fun e W' => e = .returned (.bool true) ∧ Below W.heap.size W W'))
    (W : World) (HT : Hide (T W)) :
    Calls Tryd.prog 4 #[.int .u8 (n : Int), vecV (a0, a1), vecV (b0, b1)] W fun e W' => e = .returned (.bool true) ∧ Below W.heap.size W W' := by
  obtain ⟨wa, hwa⟩ : ∃ wa, ((W.alloc (.cells #[.int .u64 (a0 : Int), .int .u64 (a1 : Int)] 24)).alloc (.cells #[.int .u64 (b0 : Int), .int .u64 (b1 : Int)] 24)) = wa := ⟨_, rfl⟩
  have Fa : Hide (VBlk wa (W.heap.size) (a0, a1)) := hide (by rw [← hwa]; exact alloc_past (alloc_at rfl))
  have Fb : Hide (VBlk wa (W.heap.size + 1) (b0, b1)) := hide (by rw [← hwa]; exact alloc_at (by simp))
  have B : Hide (Below W.heap.size W wa) := hide (by rw [← hwa]; exact ((Below.refl _ _).alloc (Nat.le_refl _) _).alloc (by simp) _)
  have HU := hide hwa
  clear hwa
  unfold vecE at C0 C2
  unfold vecV at C0 C1 C2 C3 C4 ⊢
  simp only at C0 C1 C2 C3 C4 ⊢
  go_enter Tryd.func4, Tryd.ntmps4
  go_wp2_with ((with_reducible refine (CD.out _).mono ?_); rintro e wq ⟨rfl, hww⟩; replace hww := hww.symm; subst hww)
  rw [HU.out]
  refine (C0.out _ (TL.out _ _ HT.out B.out)).mono ?_
  rintro e w0 ⟨rfl, hb⟩
  obtain ⟨u0, hu⟩ : ∃ u, w0.alloc (.cells #[.int .u64 (p : Int), .int .u64 (q : Int)] 24) = u := ⟨_, rfl⟩
  replace Fa := hide (show VBlk u0 _ _ by rw [← hu]; exact alloc_past (Fa.out.later hb Fa.out.lt))
  replace Fb := hide (show VBlk u0 _ _ by rw [← hu]; exact alloc_past (Fb.out.later hb Fb.out.lt))
  have X0 : Hide (VBlk u0 w0.heap.size (p, q)) := hide (by rw [← hu]; exact alloc_at rfl)
  replace B := hide (show Below W.heap.size W u0 by rw [← hu]; exact (B.out.trans (hb.mono B.out.size)).alloc (Nat.le_trans B.out.size hb.size) _)
  replace HU := hide hu
  clear hb hu
  go_wp2_with fail
  rw [HU.out]
  refine (C1.out _ (TL.out _ _ HT.out B.out)).mono ?_
  rintro e w1 ⟨rfl, hb⟩
  replace Fa := hide (Fa.out.later hb Fa.out.lt)
  replace Fb := hide (Fb.out.later hb Fb.out.lt)
  replace X0 := hide (X0.out.later hb X0.out.lt)
  replace B := hide (B.out.trans (hb.mono B.out.size))
  have gFa0 := Fa.out.c0
  have gFa1 := Fa.out.c1
  have gFb0 := Fb.out.c0
  have gFb1 := Fb.out.c1
  simp only at gFa0 gFa1 gFb0 gFb1
  clear hb
  go_wp2_with fail
  clear gFa0 gFa1 gFb0 gFb1
  refine (C2.out _ (TL.out _ _ HT.out B.out)).mono ?_
  rintro e w2 ⟨rfl, hb⟩
  obtain ⟨u2, hu⟩ : ∃ u, w2.alloc (.cells #[.int .u64 (r : Int), .int .u64 (s : Int)] 24) = u := ⟨_, rfl⟩
  replace Fa := hide (show VBlk u2 _ _ by rw [← hu]; exact alloc_past (Fa.out.later hb Fa.out.lt))
  replace Fb := hide (show VBlk u2 _ _ by rw [← hu]; exact alloc_past (Fb.out.later hb Fb.out.lt))
  replace X0 := hide (show VBlk u2 _ _ by rw [← hu]; exact alloc_past (X0.out.later hb X0.out.lt))
  have X2 : Hide (VBlk u2 w2.heap.size (r, s)) := hide (by rw [← hu]; exact alloc_at rfl)
  replace B := hide (show Below W.heap.size W u2 by rw [← hu]; exact (B.out.trans (hb.mono B.out.size)).alloc (Nat.le_trans B.out.size hb.size) _)
  replace HU := hide hu
  clear hb hu
  go_wp2_with fail
  rw [HU.out]
  refine (C3.out _ (TL.out _ _ HT.out B.out)).mono ?_
  rintro e w3 ⟨rfl, hb⟩
  replace Fa := hide (Fa.out.later hb Fa.out.lt)
  replace Fb := hide (Fb.out.later hb Fb.out.lt)
  replace X0 := hide (X0.out.later hb X0.out.lt)
  replace X2 := hide (X2.out.later hb X2.out.lt)
  replace B := hide (B.out.trans (hb.mono B.out.size))
  have gX20 := X2.out.c0
  have gX21 := X2.out.c1
  simp only at gX20 gX21
  clear hb
  go_wp2_with fail
  clear gX20 gX21
  refine (C4.out _ (TL.out _ _ HT.out B.out)).mono ?_
  rintro e w4 ⟨rfl, hb⟩
  replace Fa := hide (Fa.out.later hb Fa.out.lt)
  replace Fb := hide (Fb.out.later hb Fb.out.lt)
  replace X0 := hide (X0.out.later hb X0.out.lt)
  replace X2 := hide (X2.out.later hb X2.out.lt)
  replace B := hide (B.out.trans (hb.mono B.out.size))
  have gFa0 := Fa.out.c0
  have gFa1 := Fa.out.c1
  have gFb0 := Fb.out.c0
  have gFb1 := Fb.out.c1
  simp only at gFa0 gFa1 gFb0 gFb1
  clear hb
  go_wp2_with fail
  clear gFa0 gFa1 gFb0 gFb1
  refine (CW.out _ (TL.out _ _ HT.out B.out)).mono ?_
  rintro e wz ⟨rfl, hb⟩
  replace B := hide (B.out.trans (hb.mono B.out.size))
  clear hb
  go_wp2
  go_ret
  exact ⟨rfl, B.out⟩

set_option maxHeartbeats 8000000 in
theorem vmasks_64_other2 (T : World → Prop) (TL : Hide (∀ W W' : World, T W → Below W.heap.size W W' → T W')) (n a0 a1 b1 p q r s : Nat) (k : Int) (hk : (k == 3) = false) (h1 : ((a1 : Int) == (b1 : Int)) = false) (h2 : ¬ (a1 : Int) = (b1 : Int)) (h3 : ¬ a1 = b1)
    (CD : Hide (∀ W : World, Calls Tryd.prog 10 #[.int .u8 (n : Int)] W fun e W' => e = .returned (.int .i64 64) ∧ W' = W))
    (C0 : Hide (∀ W : World, T W → Calls Tryd.prog 11 #[.int .u8 32, .int .i64 64, vecV (a0, a1), vecV (a0, a1)] W fun e W' => e = .returned (vecE ((p, q), 0)) ∧ Below W.heap.size W W'))
    (C1 : Hide (∀ W : World, T W → Calls Tryd.prog 12 #[.int .i64 64, vecV (p, q)] W fun e W' => e = .returned (.tuple #[.int .u64 3, .int .i64 0]) ∧ Below W.heap.size W W'))
    (C2 : Hide (∀ W : World, T W → Calls Tryd.prog 11 #[.int .u8 32, .int .i64 64, vecV (a0, a1), vecV (a0, b1)] W fun e W' => e = .returned (vecE ((r, s), 0)) ∧ Below W.heap.size W W'))
    (C3 : Hide (∀ W : World, T W → Calls Tryd.prog 12 #[.int .i64 64, vecV (r, s)] W fun e W' => e = .returned (.tuple #[.int .u64 k, .int .i64 0]) ∧ Below W.heap.size W W'))
    (C4 : Hide (∀ W : World, T W → Calls Tryd.prog 13 #[.int .i64 64, vecV (r, s)] W fun e W' => e = .returned (.tuple #[.bool false, .int .i64 0]) ∧ Below W.heap.size W W'))
    (CW : Hide (∀ W : World, T W → Calls Tryd.prog 9 #[] W fun e W' => e = .returned (.bool true) ∧ Below W.heap.size W W'))
    (W : World) (HT : Hide (T W)) :
    Calls Tryd.prog 4 #[.int .u8 (n : Int), vecV (a0, a1), vecV (a0, b1)] W fun e W' => e = .returned (.bool true) ∧ Below W.heap.size W W' := by
  obtain ⟨wa, hwa⟩ : ∃ wa, ((W.alloc (.cells #[.int .u64 (a0 : Int), .int .u64 (a1 : Int)] 24)).alloc (.cells #[.int .u64 (a0 : Int), .int .u64 (b1 : Int)] 24)) = wa := ⟨_, rfl⟩
  have Fa : Hide (VBlk wa (W.heap.size) (a0, a1)) := hide (by rw [← hwa]; exact alloc_past (alloc_at rfl))
  have Fb : Hide (VBlk wa (W.heap.size + 1) (a0, b1)) := hide (by rw [← hwa]; exact alloc_at (by simp))
  have B : Hide (Below W.heap.size W wa) := hide (by rw [← hwa]; exact ((Below.refl _ _).alloc (Nat.le_refl _) _).alloc (by simp) _)
  have HU := hide hwa
  clear hwa
  unfold vecE at C0 C2
  unfold vecV at C0 C1 C2 C3 C4 ⊢
  simp only at C0 C1 C2 C3 C4 ⊢
  go_enter Tryd.func4, Tryd.ntmps4
  go_wp2_with ((with_reducible refine (CD.out _).mono ?_); rintro e wq ⟨rfl, hww⟩; replace hww := hww.symm; subst hww)
  rw [HU.out]
  refine (C0.out _ (TL.out _ _ HT.out B.out)).mono ?_
  rintro e w0 ⟨rfl, hb⟩
  obtain ⟨u0, hu⟩ : ∃ u, w0.alloc (.cells #[.int .u64 (p : Int), .int .u64 (q : Int)] 24) = u := ⟨_, rfl⟩
  replace Fa := hide (show VBlk u0 _ _ by rw [← hu]; exact alloc_past (Fa.out.later hb Fa.out.lt))
  replace Fb := hide (show VBlk u0 _ _ by rw [← hu]; exact alloc_past (Fb.out.later hb Fb.out.lt))
  have X0 : Hide (VBlk u0 w0.heap.size (p, q)) := hide (by rw [← hu]; exact alloc_at rfl)
  replace B := hide (show Below W.heap.size W u0 by rw [← hu]; exact (B.out.trans (hb.mono B.out.size)).alloc (Nat.le_trans B.out.size hb.size) _)
  replace HU := hide hu
  clear hb hu
  go_wp2_with fail
  rw [HU.out]
  refine (C1.out _ (TL.out _ _ HT.out B.out)).mono ?_
  rintro e w1 ⟨rfl, hb⟩
  replace Fa := hide (Fa.out.later hb Fa.out.lt)
  replace Fb := hide (Fb.out.later hb Fb.out.lt)
  replace X0 := hide (X0.out.later hb X0.out.lt)
  replace B := hide (B.out.trans (hb.mono B.out.size))
  have gFa0 := Fa.out.c0
  have gFa1 := Fa.out.c1
  have gFb0 := Fb.out.c0
  have gFb1 := Fb.out.c1
  simp only at gFa0 gFa1 gFb0 gFb1
  clear hb
  go_wp2_with fail
  clear gFa0 gFa1 gFb0 gFb1
  refine (C2.out _ (TL.out _ _ HT.out B.out)).mono ?_
  rintro e w2 ⟨rfl, hb⟩
  obtain ⟨u2, hu⟩ : ∃ u, w2.alloc (.cells #[.int .u64 (r : Int), .int .u64 (s : Int)] 24) = u := ⟨_, rfl⟩
  replace Fa := hide (show VBlk u2 _ _ by rw [← hu]; exact alloc_past (Fa.out.later hb Fa.out.lt))
  replace Fb := hide (show VBlk u2 _ _ by rw [← hu]; exact alloc_past (Fb.out.later hb Fb.out.lt))
  replace X0 := hide (show VBlk u2 _ _ by rw [← hu]; exact alloc_past (X0.out.later hb X0.out.lt))
  have X2 : Hide (VBlk u2 w2.heap.size (r, s)) := hide (by rw [← hu]; exact alloc_at rfl)
  replace B := hide (show Below W.heap.size W u2 by rw [← hu]; exact (B.out.trans (hb.mono B.out.size)).alloc (Nat.le_trans B.out.size hb.size) _)
  replace HU := hide hu
  clear hb hu
  go_wp2_with fail
  rw [HU.out]
  refine (C3.out _ (TL.out _ _ HT.out B.out)).mono ?_
  rintro e w3 ⟨rfl, hb⟩
  replace Fa := hide (Fa.out.later hb Fa.out.lt)
  replace Fb := hide (Fb.out.later hb Fb.out.lt)
  replace X0 := hide (X0.out.later hb X0.out.lt)
  replace X2 := hide (X2.out.later hb X2.out.lt)
  replace B := hide (B.out.trans (hb.mono B.out.size))
  have gX20 := X2.out.c0
  have gX21 := X2.out.c1
  simp only at gX20 gX21
  clear hb
  go_wp2_with fail
  clear gX20 gX21
  refine (C4.out _ (TL.out _ _ HT.out B.out)).mono ?_
  rintro e w4 ⟨rfl, hb⟩
  replace Fa := hide (Fa.out.later hb Fa.out.lt)
  replace Fb := hide (Fb.out.later hb Fb.out.lt)
  replace X0 := hide (X0.out.later hb X0.out.lt)
  replace X2 := hide (X2.out.later hb X2.out.lt)
  replace B := hide (B.out.trans (hb.mono B.out.size))
  have gFa0 := Fa.out.c0
  have gFa1 := Fa.out.c1
  have gFb0 := Fb.out.c0
  have gFb1 := Fb.out.c1
  simp only at gFa0 gFa1 gFb0 gFb1
  clear hb
  go_wp2_with fail
  clear gFa0 gFa1 gFb0 gFb1
  refine (CW.out _ (TL.out _ _ HT.out B.out)).mono ?_
  rintro e wz ⟨rfl, hb⟩
  replace B := hide (B.out.trans (hb.mono B.out.size))
  clear hb
  go_wp2
  go_ret
  exact ⟨rfl, B.out⟩

end Go.Proofs.YtoihfmammmkloabDoor
