/-
  The laws' works and VintsLane of vints, over contracts that are handed in.
-/
import Derived.Test.YtoihfmammmkloaaDoorPkLan
set_option linter.unusedVariables false
set_option linter.unusedSimpArgs false
namespace Go.Proofs.YtoihfmammmkloaaDoor
open Go.RowKit Lan

set_option maxHeartbeats 8000000 in
theorem vworks_walk (T : World → Prop) (TL : Hide (∀ W W' : World, T W → Below W.heap.size W W' → T W')) (m o : Nat)
    (C0 : Hide (∀ W : World, T W → Calls Tryd.prog 41 #[.int .i64 8, .int .u64 255] W fun e W' => e = .returned (vecE ((m, m), 0)) ∧ Below W.heap.size W W'))
    (C1 : Hide (∀ W : World, T W → Calls Tryd.prog 41 #[.int .i64 8, .int .u64 1] W fun e W' => e = .returned (vecE ((o, o), 0)) ∧ Below W.heap.size W W'))
    (C2 : Hide (∀ W : World, T W → Calls Tryd.prog 9 #[.int .u8 1, .int .i64 8, vecV (m, m), vecV (o, o)] W fun e W' => e = .returned (vecE ((0, 0), 0)) ∧ Below W.heap.size W W'))
    (C3 : Hide (∀ W : World, T W → Calls Tryd.prog 20 #[.int .i64 8, vecV (m, m)] W fun e W' => e = .returned (.tuple #[.int .u64 65535, .int .i64 0]) ∧ Below W.heap.size W W'))
    
    (W : World) (HT : Hide (T W)) :
    Calls Tryd.prog 11 #[] W fun e W' => e = .returned (.bool true) ∧ Below W.heap.size W W' := by
  have B : Hide (Below W.heap.size W W) := hide (Below.refl _ _)
  unfold vecE at C0 C1 C2
  unfold vecV at C0 C1 C2 C3
  simp only at C0 C1 C2 C3
  go_enter Tryd.func11, Tryd.ntmps11
  go_wp2_with fail
  refine (C0.out _ (TL.out _ _ HT.out B.out)).mono ?_
  rintro e w0 ⟨rfl, hb⟩
  obtain ⟨u0, hu⟩ : ∃ u, w0.alloc (.cells #[.int .u64 (m : Int), .int .u64 (m : Int)] 25) = u := ⟨_, rfl⟩
  have X0 : Hide (VBlk u0 w0.heap.size (m, m)) := hide (by rw [← hu]; exact alloc_at rfl)
  replace B := hide (show Below W.heap.size W u0 by rw [← hu]; exact (B.out.trans (hb.mono B.out.size)).alloc (Nat.le_trans B.out.size hb.size) _)
  replace HU := hide hu
  clear hb hu
  go_wp2_with fail
  rw [HU.out]
  refine (C1.out _ (TL.out _ _ HT.out B.out)).mono ?_
  rintro e w1 ⟨rfl, hb⟩
  obtain ⟨u1, hu⟩ : ∃ u, w1.alloc (.cells #[.int .u64 (o : Int), .int .u64 (o : Int)] 25) = u := ⟨_, rfl⟩
  have gX00 := (X0.out.later hb X0.out.lt).c0
  have gX01 := (X0.out.later hb X0.out.lt).c1
  have lX0 := (X0.out.later hb X0.out.lt).lt
  simp only at gX00 gX01
  replace X0 := hide (show VBlk u1 _ _ by rw [← hu]; exact alloc_past (X0.out.later hb X0.out.lt))
  have X1 : Hide (VBlk u1 w1.heap.size (o, o)) := hide (by rw [← hu]; exact alloc_at rfl)
  replace B := hide (show Below W.heap.size W u1 by rw [← hu]; exact (B.out.trans (hb.mono B.out.size)).alloc (Nat.le_trans B.out.size hb.size) _)
  replace HU := hide hu
  clear hb hu
  go_wp2_with fail
  rw [HU.out]
  clear lX0 gX00 gX01
  refine (C2.out _ (TL.out _ _ HT.out B.out)).mono ?_
  rintro e w2 ⟨rfl, hb⟩
  obtain ⟨u2, hu⟩ : ∃ u, w2.alloc (.cells #[.int .u64 0, .int .u64 0] 25) = u := ⟨_, rfl⟩
  have gX00 := (X0.out.later hb X0.out.lt).c0
  have gX01 := (X0.out.later hb X0.out.lt).c1
  have lX0 := (X0.out.later hb X0.out.lt).lt
  simp only at gX00 gX01
  replace X0 := hide (show VBlk u2 _ _ by rw [← hu]; exact alloc_past (X0.out.later hb X0.out.lt))
  replace X1 := hide (show VBlk u2 _ _ by rw [← hu]; exact alloc_past (X1.out.later hb X1.out.lt))
  have X2 : Hide (VBlk u2 w2.heap.size (0, 0)) := hide (by rw [← hu]; exact alloc_at rfl)
  replace B := hide (show Below W.heap.size W u2 by rw [← hu]; exact (B.out.trans (hb.mono B.out.size)).alloc (Nat.le_trans B.out.size hb.size) _)
  replace HU := hide hu
  clear hb hu
  go_wp2_with fail
  rw [HU.out]
  clear lX0 gX00 gX01
  refine (C3.out _ (TL.out _ _ HT.out B.out)).mono ?_
  rintro e w3 ⟨rfl, hb⟩
  replace X0 := hide (X0.out.later hb X0.out.lt)
  replace X1 := hide (X1.out.later hb X1.out.lt)
  replace X2 := hide (X2.out.later hb X2.out.lt)
  replace B := hide (B.out.trans (hb.mono B.out.size))
  have gX20 := X2.out.c0
  have gX21 := X2.out.c1
  simp only at gX20 gX21
  clear hb
  go_wp2
  go_ret
  exact ⟨rfl, B.out⟩

set_option maxHeartbeats 8000000 in
theorem vlane_lo_8 (T : World → Prop) (TL : Hide (∀ W W' : World, T W → Below W.heap.size W W' → T W')) (op i : Int) (n a0 a1 b0 b1 : Nat) (d0 : decide (i < 0) = true)
    (CD : Hide (∀ W : World, Calls Tryd.prog 32 #[.int .u8 (n : Int)] W fun e W' => e = .returned (.int .i64 8) ∧ W' = W))
    (CW : Hide (∀ W : World, T W → Calls Tryd.prog 11 #[] W fun e W' => e = .returned (.bool true) ∧ Below W.heap.size W W'))
    (W : World) (HT : Hide (T W)) :
    Calls Tryd.prog 8 #[.int .u8 op, .int .u8 (n : Int), vecV (a0, a1), vecV (b0, b1), .int .i64 i] W fun e W' => e = .returned (.bool true) ∧ Below W.heap.size W W' := by
  have B : Hide (Below W.heap.size W ((W.alloc (.cells #[.int .u64 (a0 : Int), .int .u64 (a1 : Int)] 25)).alloc (.cells #[.int .u64 (b0 : Int), .int .u64 (b1 : Int)] 25))) := hide (((Below.refl _ _).alloc (Nat.le_refl _) _).alloc (by simp) _)
  unfold vecV
  go_enter Tryd.func8, Tryd.ntmps8
  go_wp2_with ((with_reducible refine (CD.out _).mono ?_); rintro e wq ⟨rfl, hww⟩; replace hww := hww.symm; subst hww)
  refine (CW.out _ (TL.out _ _ HT.out B.out)).mono ?_
  rintro e wz ⟨rfl, hb⟩
  replace B := hide (B.out.trans (hb.mono B.out.size))
  clear hb
  go_wp2
  go_ret
  exact ⟨rfl, B.out⟩

set_option maxHeartbeats 8000000 in
theorem vlane_hi_8 (T : World → Prop) (TL : Hide (∀ W W' : World, T W → Below W.heap.size W W' → T W')) (op i : Int) (n a0 a1 b0 b1 : Nat) (d0 : decide (i < 0) = false) (d1 : decide (i ≥ 16) = true)
    (CD : Hide (∀ W : World, Calls Tryd.prog 32 #[.int .u8 (n : Int)] W fun e W' => e = .returned (.int .i64 8) ∧ W' = W))
    (CW : Hide (∀ W : World, T W → Calls Tryd.prog 11 #[] W fun e W' => e = .returned (.bool true) ∧ Below W.heap.size W W'))
    (W : World) (HT : Hide (T W)) :
    Calls Tryd.prog 8 #[.int .u8 op, .int .u8 (n : Int), vecV (a0, a1), vecV (b0, b1), .int .i64 i] W fun e W' => e = .returned (.bool true) ∧ Below W.heap.size W W' := by
  have B : Hide (Below W.heap.size W ((W.alloc (.cells #[.int .u64 (a0 : Int), .int .u64 (a1 : Int)] 25)).alloc (.cells #[.int .u64 (b0 : Int), .int .u64 (b1 : Int)] 25))) := hide (((Below.refl _ _).alloc (Nat.le_refl _) _).alloc (by simp) _)
  unfold vecV
  go_enter Tryd.func8, Tryd.ntmps8
  go_wp2_with ((with_reducible refine (CD.out _).mono ?_); rintro e wq ⟨rfl, hww⟩; replace hww := hww.symm; subst hww)
  refine (CW.out _ (TL.out _ _ HT.out B.out)).mono ?_
  rintro e wz ⟨rfl, hb⟩
  replace B := hide (B.out.trans (hb.mono B.out.size))
  clear hb
  go_wp2
  go_ret
  exact ⟨rfl, B.out⟩

set_option maxHeartbeats 8000000 in
theorem vlane_bad_8 (T : World → Prop) (TL : Hide (∀ W W' : World, T W → Below W.heap.size W W' → T W')) (op i : Int) (n a0 a1 b0 b1 : Nat) (d0 : decide (i < 0) = false) (d1 : decide (i ≥ 16) = false)
    (CD : Hide (∀ W : World, Calls Tryd.prog 32 #[.int .u8 (n : Int)] W fun e W' => e = .returned (.int .i64 8) ∧ W' = W))
    (C0 : Hide (∀ W : World, T W → Calls Tryd.prog 9 #[.int .u8 op, .int .i64 8, vecV (a0, a1), vecV (b0, b1)] W fun e W' => e = .returned (vecE ((0, 0), 2)) ∧ Below W.heap.size W W'))
    (CW : Hide (∀ W : World, T W → Calls Tryd.prog 11 #[] W fun e W' => e = .returned (.bool true) ∧ Below W.heap.size W W'))
    (W : World) (HT : Hide (T W)) :
    Calls Tryd.prog 8 #[.int .u8 op, .int .u8 (n : Int), vecV (a0, a1), vecV (b0, b1), .int .i64 i] W fun e W' => e = .returned (.bool true) ∧ Below W.heap.size W W' := by
  obtain ⟨wa, hwa⟩ : ∃ wa, ((W.alloc (.cells #[.int .u64 (a0 : Int), .int .u64 (a1 : Int)] 25)).alloc (.cells #[.int .u64 (b0 : Int), .int .u64 (b1 : Int)] 25)) = wa := ⟨_, rfl⟩
  have Fa : Hide (VBlk wa (W.heap.size) (a0, a1)) := hide (by rw [← hwa]; exact alloc_past (alloc_at rfl))
  have Fb : Hide (VBlk wa (W.heap.size + 1) (b0, b1)) := hide (by rw [← hwa]; exact alloc_at (by simp))
  have B : Hide (Below W.heap.size W wa) := hide (by rw [← hwa]; exact ((Below.refl _ _).alloc (Nat.le_refl _) _).alloc (by simp) _)
  have HU := hide hwa
  clear hwa
  unfold vecE at C0
  unfold vecV at C0 ⊢
  simp only at C0 ⊢
  go_enter Tryd.func8, Tryd.ntmps8
  go_wp2_with ((with_reducible refine (CD.out _).mono ?_); rintro e wq ⟨rfl, hww⟩; replace hww := hww.symm; subst hww)
  rw [HU.out]
  refine (C0.out _ (TL.out _ _ HT.out B.out)).mono ?_
  rintro e w0 ⟨rfl, hb⟩
  obtain ⟨u0, hu⟩ : ∃ u, w0.alloc (.cells #[.int .u64 0, .int .u64 0] 25) = u := ⟨_, rfl⟩
  replace Fa := hide (show VBlk u0 _ _ by rw [← hu]; exact alloc_past (Fa.out.later hb Fa.out.lt))
  replace Fb := hide (show VBlk u0 _ _ by rw [← hu]; exact alloc_past (Fb.out.later hb Fb.out.lt))
  have X0 : Hide (VBlk u0 w0.heap.size (0, 0)) := hide (by rw [← hu]; exact alloc_at rfl)
  replace B := hide (show Below W.heap.size W u0 by rw [← hu]; exact (B.out.trans (hb.mono B.out.size)).alloc (Nat.le_trans B.out.size hb.size) _)
  replace HU := hide hu
  clear hb hu
  go_wp2_with fail
  rw [HU.out]
  refine (CW.out _ (TL.out _ _ HT.out B.out)).mono ?_
  rintro e wz ⟨rfl, hb⟩
  replace B := hide (B.out.trans (hb.mono B.out.size))
  clear hb
  go_wp2
  go_ret
  exact ⟨rfl, B.out⟩

set_option maxHeartbeats 8000000 in
theorem vlane_ok_8 (T : World → Prop) (TL : Hide (∀ W W' : World, T W → Below W.heap.size W W' → T W')) (op i : Int) (n a0 a1 b0 b1 p q x y z : Nat) (d0 : decide (i < 0) = false) (d1 : decide (i ≥ 16) = false)
    (CD : Hide (∀ W : World, Calls Tryd.prog 32 #[.int .u8 (n : Int)] W fun e W' => e = .returned (.int .i64 8) ∧ W' = W))
    (C0 : Hide (∀ W : World, T W → Calls Tryd.prog 9 #[.int .u8 op, .int .i64 8, vecV (a0, a1), vecV (b0, b1)] W fun e W' => e = .returned (vecE ((p, q), 0)) ∧ Below W.heap.size W W'))
    (C1 : Hide (∀ W : World, T W → Calls Tryd.prog 33 #[vecV (a0, a1), .int .i64 8, .int .i64 i] W fun e W' => e = .returned (.tuple #[.int .u64 (x : Int), .int .i64 0]) ∧ Below W.heap.size W W'))
    (C2 : Hide (∀ W : World, T W → Calls Tryd.prog 33 #[vecV (b0, b1), .int .i64 8, .int .i64 i] W fun e W' => e = .returned (.tuple #[.int .u64 (y : Int), .int .i64 0]) ∧ Below W.heap.size W W'))
    (C3 : Hide (∀ W : World, T W → Calls Tryd.prog 34 #[.int .u8 op, .int .i64 8, .int .u64 (x : Int), .int .u64 (y : Int)] W fun e W' => e = .returned (.tuple #[.int .u64 (z : Int), .int .i64 0]) ∧ Below W.heap.size W W'))
    (C4 : Hide (∀ W : World, T W → Calls Tryd.prog 33 #[vecV (p, q), .int .i64 8, .int .i64 i] W fun e W' => e = .returned (.tuple #[.int .u64 (z : Int), .int .i64 0]) ∧ Below W.heap.size W W'))
    (CW : Hide (∀ W : World, T W → Calls Tryd.prog 11 #[] W fun e W' => e = .returned (.bool true) ∧ Below W.heap.size W W'))
    (W : World) (HT : Hide (T W)) :
    Calls Tryd.prog 8 #[.int .u8 op, .int .u8 (n : Int), vecV (a0, a1), vecV (b0, b1), .int .i64 i] W fun e W' => e = .returned (.bool true) ∧ Below W.heap.size W W' := by
  obtain ⟨wa, hwa⟩ : ∃ wa, ((W.alloc (.cells #[.int .u64 (a0 : Int), .int .u64 (a1 : Int)] 25)).alloc (.cells #[.int .u64 (b0 : Int), .int .u64 (b1 : Int)] 25)) = wa := ⟨_, rfl⟩
  have Fa : Hide (VBlk wa (W.heap.size) (a0, a1)) := hide (by rw [← hwa]; exact alloc_past (alloc_at rfl))
  have Fb : Hide (VBlk wa (W.heap.size + 1) (b0, b1)) := hide (by rw [← hwa]; exact alloc_at (by simp))
  have B : Hide (Below W.heap.size W wa) := hide (by rw [← hwa]; exact ((Below.refl _ _).alloc (Nat.le_refl _) _).alloc (by simp) _)
  have HU := hide hwa
  clear hwa
  unfold vecE at C0
  unfold vecV at C0 C1 C2 C4 ⊢
  simp only at C0 C1 C2 C4 ⊢
  go_enter Tryd.func8, Tryd.ntmps8
  go_wp2_with ((with_reducible refine (CD.out _).mono ?_); rintro e wq ⟨rfl, hww⟩; replace hww := hww.symm; subst hww)
  rw [HU.out]
  refine (C0.out _ (TL.out _ _ HT.out B.out)).mono ?_
  rintro e w0 ⟨rfl, hb⟩
  obtain ⟨u0, hu⟩ : ∃ u, w0.alloc (.cells #[.int .u64 (p : Int), .int .u64 (q : Int)] 25) = u := ⟨_, rfl⟩
  have gFa0 := (Fa.out.later hb Fa.out.lt).c0
  have gFa1 := (Fa.out.later hb Fa.out.lt).c1
  have lFa := (Fa.out.later hb Fa.out.lt).lt
  simp only at gFa0 gFa1
  replace Fa := hide (show VBlk u0 _ _ by rw [← hu]; exact alloc_past (Fa.out.later hb Fa.out.lt))
  replace Fb := hide (show VBlk u0 _ _ by rw [← hu]; exact alloc_past (Fb.out.later hb Fb.out.lt))
  have X0 : Hide (VBlk u0 w0.heap.size (p, q)) := hide (by rw [← hu]; exact alloc_at rfl)
  replace B := hide (show Below W.heap.size W u0 by rw [← hu]; exact (B.out.trans (hb.mono B.out.size)).alloc (Nat.le_trans B.out.size hb.size) _)
  replace HU := hide hu
  clear hb hu
  go_wp2_with fail
  rw [HU.out]
  clear lFa gFa0 gFa1
  refine (C1.out _ (TL.out _ _ HT.out B.out)).mono ?_
  rintro e w1 ⟨rfl, hb⟩
  replace Fa := hide (Fa.out.later hb Fa.out.lt)
  replace Fb := hide (Fb.out.later hb Fb.out.lt)
  replace X0 := hide (X0.out.later hb X0.out.lt)
  replace B := hide (B.out.trans (hb.mono B.out.size))
  have gFb0 := Fb.out.c0
  have gFb1 := Fb.out.c1
  simp only at gFb0 gFb1
  clear hb
  go_wp2_with fail
  clear gFb0 gFb1
  refine (C2.out _ (TL.out _ _ HT.out B.out)).mono ?_
  rintro e w2 ⟨rfl, hb⟩
  replace Fa := hide (Fa.out.later hb Fa.out.lt)
  replace Fb := hide (Fb.out.later hb Fb.out.lt)
  replace X0 := hide (X0.out.later hb X0.out.lt)
  replace B := hide (B.out.trans (hb.mono B.out.size))
  clear hb
  go_wp2_with fail
  refine (C3.out _ (TL.out _ _ HT.out B.out)).mono ?_
  rintro e w3 ⟨rfl, hb⟩
  replace Fa := hide (Fa.out.later hb Fa.out.lt)
  replace Fb := hide (Fb.out.later hb Fb.out.lt)
  replace X0 := hide (X0.out.later hb X0.out.lt)
  replace B := hide (B.out.trans (hb.mono B.out.size))
  have gX00 := X0.out.c0
  have gX01 := X0.out.c1
  simp only at gX00 gX01
  clear hb
  go_wp2_with fail
  clear gX00 gX01
  refine (C4.out _ (TL.out _ _ HT.out B.out)).mono ?_
  rintro e w4 ⟨rfl, hb⟩
  replace Fa := hide (Fa.out.later hb Fa.out.lt)
  replace Fb := hide (Fb.out.later hb Fb.out.lt)
  replace X0 := hide (X0.out.later hb X0.out.lt)
  replace B := hide (B.out.trans (hb.mono B.out.size))
  clear hb
  go_wp2_with fail
  refine (CW.out _ (TL.out _ _ HT.out B.out)).mono ?_
  rintro e wz ⟨rfl, hb⟩
  replace B := hide (B.out.trans (hb.mono B.out.size))
  clear hb
  go_wp2
  go_ret
  exact ⟨rfl, B.out⟩

set_option maxHeartbeats 8000000 in
theorem vlane_lo_16 (T : World → Prop) (TL : Hide (∀ W W' : World, T W → Below W.heap.size W W' → T W')) (op i : Int) (n a0 a1 b0 b1 : Nat) (d0 : decide (i < 0) = true)
    (CD : Hide (∀ W : World, Calls Tryd.prog 32 #[.int .u8 (n : Int)] W fun e W' => e = .returned (.int .i64 16) ∧ W' = W))
    (CW : Hide (∀ W : World, T W → Calls Tryd.prog 11 #[] W fun e W' => e = .returned (.bool true) ∧ Below W.heap.size W W'))
    (W : World) (HT : Hide (T W)) :
    Calls Tryd.prog 8 #[.int .u8 op, .int .u8 (n : Int), vecV (a0, a1), vecV (b0, b1), .int .i64 i] W fun e W' => e = .returned (.bool true) ∧ Below W.heap.size W W' := by
  have B : Hide (Below W.heap.size W ((W.alloc (.cells #[.int .u64 (a0 : Int), .int .u64 (a1 : Int)] 25)).alloc (.cells #[.int .u64 (b0 : Int), .int .u64 (b1 : Int)] 25))) := hide (((Below.refl _ _).alloc (Nat.le_refl _) _).alloc (by simp) _)
  unfold vecV
  go_enter Tryd.func8, Tryd.ntmps8
  go_wp2_with ((with_reducible refine (CD.out _).mono ?_); rintro e wq ⟨rfl, hww⟩; replace hww := hww.symm; subst hww)
  refine (CW.out _ (TL.out _ _ HT.out B.out)).mono ?_
  rintro e wz ⟨rfl, hb⟩
  replace B := hide (B.out.trans (hb.mono B.out.size))
  clear hb
  go_wp2
  go_ret
  exact ⟨rfl, B.out⟩

set_option maxHeartbeats 8000000 in
theorem vlane_hi_16 (T : World → Prop) (TL : Hide (∀ W W' : World, T W → Below W.heap.size W W' → T W')) (op i : Int) (n a0 a1 b0 b1 : Nat) (d0 : decide (i < 0) = false) (d1 : decide (i ≥ 8) = true)
    (CD : Hide (∀ W : World, Calls Tryd.prog 32 #[.int .u8 (n : Int)] W fun e W' => e = .returned (.int .i64 16) ∧ W' = W))
    (CW : Hide (∀ W : World, T W → Calls Tryd.prog 11 #[] W fun e W' => e = .returned (.bool true) ∧ Below W.heap.size W W'))
    (W : World) (HT : Hide (T W)) :
    Calls Tryd.prog 8 #[.int .u8 op, .int .u8 (n : Int), vecV (a0, a1), vecV (b0, b1), .int .i64 i] W fun e W' => e = .returned (.bool true) ∧ Below W.heap.size W W' := by
  have B : Hide (Below W.heap.size W ((W.alloc (.cells #[.int .u64 (a0 : Int), .int .u64 (a1 : Int)] 25)).alloc (.cells #[.int .u64 (b0 : Int), .int .u64 (b1 : Int)] 25))) := hide (((Below.refl _ _).alloc (Nat.le_refl _) _).alloc (by simp) _)
  unfold vecV
  go_enter Tryd.func8, Tryd.ntmps8
  go_wp2_with ((with_reducible refine (CD.out _).mono ?_); rintro e wq ⟨rfl, hww⟩; replace hww := hww.symm; subst hww)
  refine (CW.out _ (TL.out _ _ HT.out B.out)).mono ?_
  rintro e wz ⟨rfl, hb⟩
  replace B := hide (B.out.trans (hb.mono B.out.size))
  clear hb
  go_wp2
  go_ret
  exact ⟨rfl, B.out⟩

set_option maxHeartbeats 8000000 in
theorem vlane_bad_16 (T : World → Prop) (TL : Hide (∀ W W' : World, T W → Below W.heap.size W W' → T W')) (op i : Int) (n a0 a1 b0 b1 : Nat) (d0 : decide (i < 0) = false) (d1 : decide (i ≥ 8) = false)
    (CD : Hide (∀ W : World, Calls Tryd.prog 32 #[.int .u8 (n : Int)] W fun e W' => e = .returned (.int .i64 16) ∧ W' = W))
    (C0 : Hide (∀ W : World, T W → Calls Tryd.prog 9 #[.int .u8 op, .int .i64 16, vecV (a0, a1), vecV (b0, b1)] W fun e W' => e = .returned (vecE ((0, 0), 2)) ∧ Below W.heap.size W W'))
    (CW : Hide (∀ W : World, T W → Calls Tryd.prog 11 #[] W fun e W' => e = .returned (.bool true) ∧ Below W.heap.size W W'))
    (W : World) (HT : Hide (T W)) :
    Calls Tryd.prog 8 #[.int .u8 op, .int .u8 (n : Int), vecV (a0, a1), vecV (b0, b1), .int .i64 i] W fun e W' => e = .returned (.bool true) ∧ Below W.heap.size W W' := by
  obtain ⟨wa, hwa⟩ : ∃ wa, ((W.alloc (.cells #[.int .u64 (a0 : Int), .int .u64 (a1 : Int)] 25)).alloc (.cells #[.int .u64 (b0 : Int), .int .u64 (b1 : Int)] 25)) = wa := ⟨_, rfl⟩
  have Fa : Hide (VBlk wa (W.heap.size) (a0, a1)) := hide (by rw [← hwa]; exact alloc_past (alloc_at rfl))
  have Fb : Hide (VBlk wa (W.heap.size + 1) (b0, b1)) := hide (by rw [← hwa]; exact alloc_at (by simp))
  have B : Hide (Below W.heap.size W wa) := hide (by rw [← hwa]; exact ((Below.refl _ _).alloc (Nat.le_refl _) _).alloc (by simp) _)
  have HU := hide hwa
  clear hwa
  unfold vecE at C0
  unfold vecV at C0 ⊢
  simp only at C0 ⊢
  go_enter Tryd.func8, Tryd.ntmps8
  go_wp2_with ((with_reducible refine (CD.out _).mono ?_); rintro e wq ⟨rfl, hww⟩; replace hww := hww.symm; subst hww)
  rw [HU.out]
  refine (C0.out _ (TL.out _ _ HT.out B.out)).mono ?_
  rintro e w0 ⟨rfl, hb⟩
  obtain ⟨u0, hu⟩ : ∃ u, w0.alloc (.cells #[.int .u64 0, .int .u64 0] 25) = u := ⟨_, rfl⟩
  replace Fa := hide (show VBlk u0 _ _ by rw [← hu]; exact alloc_past (Fa.out.later hb Fa.out.lt))
  replace Fb := hide (show VBlk u0 _ _ by rw [← hu]; exact alloc_past (Fb.out.later hb Fb.out.lt))
  have X0 : Hide (VBlk u0 w0.heap.size (0, 0)) := hide (by rw [← hu]; exact alloc_at rfl)
  replace B := hide (show Below W.heap.size W u0 by rw [← hu]; exact (B.out.trans (hb.mono B.out.size)).alloc (Nat.le_trans B.out.size hb.size) _)
  replace HU := hide hu
  clear hb hu
  go_wp2_with fail
  rw [HU.out]
  refine (CW.out _ (TL.out _ _ HT.out B.out)).mono ?_
  rintro e wz ⟨rfl, hb⟩
  replace B := hide (B.out.trans (hb.mono B.out.size))
  clear hb
  go_wp2
  go_ret
  exact ⟨rfl, B.out⟩

set_option maxHeartbeats 8000000 in
theorem vlane_ok_16 (T : World → Prop) (TL : Hide (∀ W W' : World, T W → Below W.heap.size W W' → T W')) (op i : Int) (n a0 a1 b0 b1 p q x y z : Nat) (d0 : decide (i < 0) = false) (d1 : decide (i ≥ 8) = false)
    (CD : Hide (∀ W : World, Calls Tryd.prog 32 #[.int .u8 (n : Int)] W fun e W' => e = .returned (.int .i64 16) ∧ W' = W))
    (C0 : Hide (∀ W : World, T W → Calls Tryd.prog 9 #[.int .u8 op, .int .i64 16, vecV (a0, a1), vecV (b0, b1)] W fun e W' => e = .returned (vecE ((p, q), 0)) ∧ Below W.heap.size W W'))
    (C1 : Hide (∀ W : World, T W → Calls Tryd.prog 33 #[vecV (a0, a1), .int .i64 16, .int .i64 i] W fun e W' => e = .returned (.tuple #[.int .u64 (x : Int), .int .i64 0]) ∧ Below W.heap.size W W'))
    (C2 : Hide (∀ W : World, T W → Calls Tryd.prog 33 #[vecV (b0, b1), .int .i64 16, .int .i64 i] W fun e W' => e = .returned (.tuple #[.int .u64 (y : Int), .int .i64 0]) ∧ Below W.heap.size W W'))
    (C3 : Hide (∀ W : World, T W → Calls Tryd.prog 34 #[.int .u8 op, .int .i64 16, .int .u64 (x : Int), .int .u64 (y : Int)] W fun e W' => e = .returned (.tuple #[.int .u64 (z : Int), .int .i64 0]) ∧ Below W.heap.size W W'))
    (C4 : Hide (∀ W : World, T W → Calls Tryd.prog 33 #[vecV (p, q), .int .i64 16, .int .i64 i] W fun e W' => e = .returned (.tuple #[.int .u64 (z : Int), .int .i64 0]) ∧ Below W.heap.size W W'))
    (CW : Hide (∀ W : World, T W → Calls Tryd.prog 11 #[] W fun e W' => e = .returned (.bool true) ∧ Below W.heap.size W W'))
    (W : World) (HT : Hide (T W)) :
    Calls Tryd.prog 8 #[.int .u8 op, .int .u8 (n : Int), vecV (a0, a1), vecV (b0, b1), .int .i64 i] W fun e W' => e = .returned (.bool true) ∧ Below W.heap.size W W' := by
  obtain ⟨wa, hwa⟩ : ∃ wa, ((W.alloc (.cells #[.int .u64 (a0 : Int), .int .u64 (a1 : Int)] 25)).alloc (.cells #[.int .u64 (b0 : Int), .int .u64 (b1 : Int)] 25)) = wa := ⟨_, rfl⟩
  have Fa : Hide (VBlk wa (W.heap.size) (a0, a1)) := hide (by rw [← hwa]; exact alloc_past (alloc_at rfl))
  have Fb : Hide (VBlk wa (W.heap.size + 1) (b0, b1)) := hide (by rw [← hwa]; exact alloc_at (by simp))
  have B : Hide (Below W.heap.size W wa) := hide (by rw [← hwa]; exact ((Below.refl _ _).alloc (Nat.le_refl _) _).alloc (by simp) _)
  have HU := hide hwa
  clear hwa
  unfold vecE at C0
  unfold vecV at C0 C1 C2 C4 ⊢
  simp only at C0 C1 C2 C4 ⊢
  go_enter Tryd.func8, Tryd.ntmps8
  go_wp2_with ((with_reducible refine (CD.out _).mono ?_); rintro e wq ⟨rfl, hww⟩; replace hww := hww.symm; subst hww)
  rw [HU.out]
  refine (C0.out _ (TL.out _ _ HT.out B.out)).mono ?_
  rintro e w0 ⟨rfl, hb⟩
  obtain ⟨u0, hu⟩ : ∃ u, w0.alloc (.cells #[.int .u64 (p : Int), .int .u64 (q : Int)] 25) = u := ⟨_, rfl⟩
  have gFa0 := (Fa.out.later hb Fa.out.lt).c0
  have gFa1 := (Fa.out.later hb Fa.out.lt).c1
  have lFa := (Fa.out.later hb Fa.out.lt).lt
  simp only at gFa0 gFa1
  replace Fa := hide (show VBlk u0 _ _ by rw [← hu]; exact alloc_past (Fa.out.later hb Fa.out.lt))
  replace Fb := hide (show VBlk u0 _ _ by rw [← hu]; exact alloc_past (Fb.out.later hb Fb.out.lt))
  have X0 : Hide (VBlk u0 w0.heap.size (p, q)) := hide (by rw [← hu]; exact alloc_at rfl)
  replace B := hide (show Below W.heap.size W u0 by rw [← hu]; exact (B.out.trans (hb.mono B.out.size)).alloc (Nat.le_trans B.out.size hb.size) _)
  replace HU := hide hu
  clear hb hu
  go_wp2_with fail
  rw [HU.out]
  clear lFa gFa0 gFa1
  refine (C1.out _ (TL.out _ _ HT.out B.out)).mono ?_
  rintro e w1 ⟨rfl, hb⟩
  replace Fa := hide (Fa.out.later hb Fa.out.lt)
  replace Fb := hide (Fb.out.later hb Fb.out.lt)
  replace X0 := hide (X0.out.later hb X0.out.lt)
  replace B := hide (B.out.trans (hb.mono B.out.size))
  have gFb0 := Fb.out.c0
  have gFb1 := Fb.out.c1
  simp only at gFb0 gFb1
  clear hb
  go_wp2_with fail
  clear gFb0 gFb1
  refine (C2.out _ (TL.out _ _ HT.out B.out)).mono ?_
  rintro e w2 ⟨rfl, hb⟩
  replace Fa := hide (Fa.out.later hb Fa.out.lt)
  replace Fb := hide (Fb.out.later hb Fb.out.lt)
  replace X0 := hide (X0.out.later hb X0.out.lt)
  replace B := hide (B.out.trans (hb.mono B.out.size))
  clear hb
  go_wp2_with fail
  refine (C3.out _ (TL.out _ _ HT.out B.out)).mono ?_
  rintro e w3 ⟨rfl, hb⟩
  replace Fa := hide (Fa.out.later hb Fa.out.lt)
  replace Fb := hide (Fb.out.later hb Fb.out.lt)
  replace X0 := hide (X0.out.later hb X0.out.lt)
  replace B := hide (B.out.trans (hb.mono B.out.size))
  have gX00 := X0.out.c0
  have gX01 := X0.out.c1
  simp only at gX00 gX01
  clear hb
  go_wp2_with fail
  clear gX00 gX01
  refine (C4.out _ (TL.out _ _ HT.out B.out)).mono ?_
  rintro e w4 ⟨rfl, hb⟩
  replace Fa := hide (Fa.out.later hb Fa.out.lt)
  replace Fb := hide (Fb.out.later hb Fb.out.lt)
  replace X0 := hide (X0.out.later hb X0.out.lt)
  replace B := hide (B.out.trans (hb.mono B.out.size))
  clear hb
  go_wp2_with fail
  refine (CW.out _ (TL.out _ _ HT.out B.out)).mono ?_
  rintro e wz ⟨rfl, hb⟩
  replace B := hide (B.out.trans (hb.mono B.out.size))
  clear hb
  go_wp2
  go_ret
  exact ⟨rfl, B.out⟩

set_option maxHeartbeats 8000000 in
theorem vlane_lo_32 (T : World → Prop) (TL : Hide (∀ W W' : World, T W → Below W.heap.size W W' → T W')) (op i : Int) (n a0 a1 b0 b1 : Nat) (d0 : decide (i < 0) = true)
    (CD : Hide (∀ W : World, Calls Tryd.prog 32 #[.int .u8 (n : Int)] W fun e W' => e = .returned (.int .i64 32) ∧ W' = W))
    (CW : Hide (∀ W : World, T W → Calls Tryd.prog 11 #[] W fun e W' => e = .returned (.bool true) ∧ Below W.heap.size W W'))
    (W : World) (HT : Hide (T W)) :
    Calls Tryd.prog 8 #[.int .u8 op, .int .u8 (n : Int), vecV (a0, a1), vecV (b0, b1), .int .i64 i] W fun e W' => e = .returned (.bool true) ∧ Below W.heap.size W W' := by
  have B : Hide (Below W.heap.size W ((W.alloc (.cells #[.int .u64 (a0 : Int), .int .u64 (a1 : Int)] 25)).alloc (.cells #[.int .u64 (b0 : Int), .int .u64 (b1 : Int)] 25))) := hide (((Below.refl _ _).alloc (Nat.le_refl _) _).alloc (by simp) _)
  unfold vecV
  go_enter Tryd.func8, Tryd.ntmps8
  go_wp2_with ((with_reducible refine (CD.out _).mono ?_); rintro e wq ⟨rfl, hww⟩; replace hww := hww.symm; subst hww)
  refine (CW.out _ (TL.out _ _ HT.out B.out)).mono ?_
  rintro e wz ⟨rfl, hb⟩
  replace B := hide (B.out.trans (hb.mono B.out.size))
  clear hb
  go_wp2
  go_ret
  exact ⟨rfl, B.out⟩

set_option maxHeartbeats 8000000 in
theorem vlane_hi_32 (T : World → Prop) (TL : Hide (∀ W W' : World, T W → Below W.heap.size W W' → T W')) (op i : Int) (n a0 a1 b0 b1 : Nat) (d0 : decide (i < 0) = false) (d1 : decide (i ≥ 4) = true)
    (CD : Hide (∀ W : World, Calls Tryd.prog 32 #[.int .u8 (n : Int)] W fun e W' => e = .returned (.int .i64 32) ∧ W' = W))
    (CW : Hide (∀ W : World, T W → Calls Tryd.prog 11 #[] W fun e W' => e = .returned (.bool true) ∧ Below W.heap.size W W'))
    (W : World) (HT : Hide (T W)) :
    Calls Tryd.prog 8 #[.int .u8 op, .int .u8 (n : Int), vecV (a0, a1), vecV (b0, b1), .int .i64 i] W fun e W' => e = .returned (.bool true) ∧ Below W.heap.size W W' := by
  have B : Hide (Below W.heap.size W ((W.alloc (.cells #[.int .u64 (a0 : Int), .int .u64 (a1 : Int)] 25)).alloc (.cells #[.int .u64 (b0 : Int), .int .u64 (b1 : Int)] 25))) := hide (((Below.refl _ _).alloc (Nat.le_refl _) _).alloc (by simp) _)
  unfold vecV
  go_enter Tryd.func8, Tryd.ntmps8
  go_wp2_with ((with_reducible refine (CD.out _).mono ?_); rintro e wq ⟨rfl, hww⟩; replace hww := hww.symm; subst hww)
  refine (CW.out _ (TL.out _ _ HT.out B.out)).mono ?_
  rintro e wz ⟨rfl, hb⟩
  replace B := hide (B.out.trans (hb.mono B.out.size))
  clear hb
  go_wp2
  go_ret
  exact ⟨rfl, B.out⟩

set_option maxHeartbeats 8000000 in
theorem vlane_bad_32 (T : World → Prop) (TL : Hide (∀ W W' : World, T W → Below W.heap.size W W' → T W')) (op i : Int) (n a0 a1 b0 b1 : Nat) (d0 : decide (i < 0) = false) (d1 : decide (i ≥ 4) = false)
    (CD : Hide (∀ W : World, Calls Tryd.prog 32 #[.int .u8 (n : Int)] W fun e W' => e = .returned (.int .i64 32) ∧ W' = W))
    (C0 : Hide (∀ W : World, T W → Calls Tryd.prog 9 #[.int .u8 op, .int .i64 32, vecV (a0, a1), vecV (b0, b1)] W fun e W' => e = .returned (vecE ((0, 0), 2)) ∧ Below W.heap.size W W'))
    (CW : Hide (∀ W : World, T W → Calls Tryd.prog 11 #[] W fun e W' => e = .returned (.bool true) ∧ Below W.heap.size W W'))
    (W : World) (HT : Hide (T W)) :
    Calls Tryd.prog 8 #[.int .u8 op, .int .u8 (n : Int), vecV (a0, a1), vecV (b0, b1), .int .i64 i] W fun e W' => e = .returned (.bool true) ∧ Below W.heap.size W W' := by
  obtain ⟨wa, hwa⟩ : ∃ wa, ((W.alloc (.cells #[.int .u64 (a0 : Int), .int .u64 (a1 : Int)] 25)).alloc (.cells #[.int .u64 (b0 : Int), .int .u64 (b1 : Int)] 25)) = wa := ⟨_, rfl⟩
  have Fa : Hide (VBlk wa (W.heap.size) (a0, a1)) := hide (by rw [← hwa]; exact alloc_past (alloc_at rfl))
  have Fb : Hide (VBlk wa (W.heap.size + 1) (b0, b1)) := hide (by rw [← hwa]; exact alloc_at (by simp))
  have B : Hide (Below W.heap.size W wa) := hide (by rw [← hwa]; exact ((Below.refl _ _).alloc (Nat.le_refl _) _).alloc (by simp) _)
  have HU := hide hwa
  clear hwa
  unfold vecE at C0
  unfold vecV at C0 ⊢
  simp only at C0 ⊢
  go_enter Tryd.func8, Tryd.ntmps8
  go_wp2_with ((with_reducible refine (CD.out _).mono ?_); rintro e wq ⟨rfl, hww⟩; replace hww := hww.symm; subst hww)
  rw [HU.out]
  refine (C0.out _ (TL.out _ _ HT.out B.out)).mono ?_
  rintro e w0 ⟨rfl, hb⟩
  obtain ⟨u0, hu⟩ : ∃ u, w0.alloc (.cells #[.int .u64 0, .int .u64 0] 25) = u := ⟨_, rfl⟩
  replace Fa := hide (show VBlk u0 _ _ by rw [← hu]; exact alloc_past (Fa.out.later hb Fa.out.lt))
  replace Fb := hide (show VBlk u0 _ _ by rw [← hu]; exact alloc_past (Fb.out.later hb Fb.out.lt))
  have X0 : Hide (VBlk u0 w0.heap.size (0, 0)) := hide (by rw [← hu]; exact alloc_at rfl)
  replace B := hide (show Below W.heap.size W u0 by rw [← hu]; exact (B.out.trans (hb.mono B.out.size)).alloc (Nat.le_trans B.out.size hb.size) _)
  replace HU := hide hu
  clear hb hu
  go_wp2_with fail
  rw [HU.out]
  refine (CW.out _ (TL.out _ _ HT.out B.out)).mono ?_
  rintro e wz ⟨rfl, hb⟩
  replace B := hide (B.out.trans (hb.mono B.out.size))
  clear hb
  go_wp2
  go_ret
  exact ⟨rfl, B.out⟩

set_option maxHeartbeats 8000000 in
theorem vlane_ok_32 (T : World → Prop) (TL : Hide (∀ W W' : World, T W → Below W.heap.size W W' → T W')) (op i : Int) (n a0 a1 b0 b1 p q x y z : Nat) (d0 : decide (i < 0) = false) (d1 : decide (i ≥ 4) = false)
    (CD : Hide (∀ W : World, Calls Tryd.prog 32 #[.int .u8 (n : Int)] W fun e W' => e = .returned (.int .i64 32) ∧ W' = W))
    (C0 : Hide (∀ W : World, T W → Calls Tryd.prog 9 #[.int .u8 op, .int .i64 32, vecV (a0, a1), vecV (b0, b1)] W fun e W' => e = .returned (vecE ((p, q), 0)) ∧ Below W.heap.size W W'))
    (C1 : Hide (∀ W : World, T W → Calls Tryd.prog 33 #[vecV (a0, a1), .int .i64 32, .int .i64 i] W fun e W' => e = .returned (.tuple #[.int .u64 (x : Int), .int .i64 0]) ∧ Below W.heap.size W W'))
    (C2 : Hide (∀ W : World, T W → Calls Tryd.prog 33 #[vecV (b0, b1), .int .i64 32, .int .i64 i] W fun e W' => e = .returned (.tuple #[.int .u64 (y : Int), .int .i64 0]) ∧ Below W.heap.size W W'))
    (C3 : Hide (∀ W : World, T W → Calls Tryd.prog 34 #[.int .u8 op, .int .i64 32, .int .u64 (x : Int), .int .u64 (y : Int)] W fun e W' => e = .returned (.tuple #[.int .u64 (z : Int), .int .i64 0]) ∧ Below W.heap.size W W'))
    (C4 : Hide (∀ W : World, T W → Calls Tryd.prog 33 #[vecV (p, q), .int .i64 32, .int .i64 i] W fun e W' => e = .returned (.tuple #[.int .u64 (z : Int), .int .i64 0]) ∧ Below W.heap.size W W'))
    (CW : Hide (∀ W : World, T W → Calls Tryd.prog 11 #[] W fun e W' => e = .returned (.bool true) ∧ Below W.heap.size W W'))
    (W : World) (HT : Hide (T W)) :
    Calls Tryd.prog 8 #[.int .u8 op, .int .u8 (n : Int), vecV (a0, a1), vecV (b0, b1), .int .i64 i] W fun e W' => e = .returned (.bool true) ∧ Below W.heap.size W W' := by
  obtain ⟨wa, hwa⟩ : ∃ wa, ((W.alloc (.cells #[.int .u64 (a0 : Int), .int .u64 (a1 : Int)] 25)).alloc (.cells #[.int .u64 (b0 : Int), .int .u64 (b1 : Int)] 25)) = wa := ⟨_, rfl⟩
  have Fa : Hide (VBlk wa (W.heap.size) (a0, a1)) := hide (by rw [← hwa]; exact alloc_past (alloc_at rfl))
  have Fb : Hide (VBlk wa (W.heap.size + 1) (b0, b1)) := hide (by rw [← hwa]; exact alloc_at (by simp))
  have B : Hide (Below W.heap.size W wa) := hide (by rw [← hwa]; exact ((Below.refl _ _).alloc (Nat.le_refl _) _).alloc (by simp) _)
  have HU := hide hwa
  clear hwa
  unfold vecE at C0
  unfold vecV at C0 C1 C2 C4 ⊢
  simp only at C0 C1 C2 C4 ⊢
  go_enter Tryd.func8, Tryd.ntmps8
  go_wp2_with ((with_reducible refine (CD.out _).mono ?_); rintro e wq ⟨rfl, hww⟩; replace hww := hww.symm; subst hww)
  rw [HU.out]
  refine (C0.out _ (TL.out _ _ HT.out B.out)).mono ?_
  rintro e w0 ⟨rfl, hb⟩
  obtain ⟨u0, hu⟩ : ∃ u, w0.alloc (.cells #[.int .u64 (p : Int), .int .u64 (q : Int)] 25) = u := ⟨_, rfl⟩
  have gFa0 := (Fa.out.later hb Fa.out.lt).c0
  have gFa1 := (Fa.out.later hb Fa.out.lt).c1
  have lFa := (Fa.out.later hb Fa.out.lt).lt
  simp only at gFa0 gFa1
  replace Fa := hide (show VBlk u0 _ _ by rw [← hu]; exact alloc_past (Fa.out.later hb Fa.out.lt))
  replace Fb := hide (show VBlk u0 _ _ by rw [← hu]; exact alloc_past (Fb.out.later hb Fb.out.lt))
  have X0 : Hide (VBlk u0 w0.heap.size (p, q)) := hide (by rw [← hu]; exact alloc_at rfl)
  replace B := hide (show Below W.heap.size W u0 by rw [← hu]; exact (B.out.trans (hb.mono B.out.size)).alloc (Nat.le_trans B.out.size hb.size) _)
  replace HU := hide hu
  clear hb hu
  go_wp2_with fail
  rw [HU.out]
  clear lFa gFa0 gFa1
  refine (C1.out _ (TL.out _ _ HT.out B.out)).mono ?_
  rintro e w1 ⟨rfl, hb⟩
  replace Fa := hide (Fa.out.later hb Fa.out.lt)
  replace Fb := hide (Fb.out.later hb Fb.out.lt)
  replace X0 := hide (X0.out.later hb X0.out.lt)
  replace B := hide (B.out.trans (hb.mono B.out.size))
  have gFb0 := Fb.out.c0
  have gFb1 := Fb.out.c1
  simp only at gFb0 gFb1
  clear hb
  go_wp2_with fail
  clear gFb0 gFb1
  refine (C2.out _ (TL.out _ _ HT.out B.out)).mono ?_
  rintro e w2 ⟨rfl, hb⟩
  replace Fa := hide (Fa.out.later hb Fa.out.lt)
  replace Fb := hide (Fb.out.later hb Fb.out.lt)
  replace X0 := hide (X0.out.later hb X0.out.lt)
  replace B := hide (B.out.trans (hb.mono B.out.size))
  clear hb
  go_wp2_with fail
  refine (C3.out _ (TL.out _ _ HT.out B.out)).mono ?_
  rintro e w3 ⟨rfl, hb⟩
  replace Fa := hide (Fa.out.later hb Fa.out.lt)
  replace Fb := hide (Fb.out.later hb Fb.out.lt)
  replace X0 := hide (X0.out.later hb X0.out.lt)
  replace B := hide (B.out.trans (hb.mono B.out.size))
  have gX00 := X0.out.c0
  have gX01 := X0.out.c1
  simp only at gX00 gX01
  clear hb
  go_wp2_with fail
  clear gX00 gX01
  refine (C4.out _ (TL.out _ _ HT.out B.out)).mono ?_
  rintro e w4 ⟨rfl, hb⟩
  replace Fa := hide (Fa.out.later hb Fa.out.lt)
  replace Fb := hide (Fb.out.later hb Fb.out.lt)
  replace X0 := hide (X0.out.later hb X0.out.lt)
  replace B := hide (B.out.trans (hb.mono B.out.size))
  clear hb
  go_wp2_with fail
  refine (CW.out _ (TL.out _ _ HT.out B.out)).mono ?_
  rintro e wz ⟨rfl, hb⟩
  replace B := hide (B.out.trans (hb.mono B.out.size))
  clear hb
  go_wp2
  go_ret
  exact ⟨rfl, B.out⟩

set_option maxHeartbeats 8000000 in
theorem vlane_lo_64 (T : World → Prop) (TL : Hide (∀ W W' : World, T W → Below W.heap.size W W' → T W')) (op i : Int) (n a0 a1 b0 b1 : Nat) (d0 : decide (i < 0) = true)
    (CD : Hide (∀ W : World, Calls Tryd.prog 32 #[.int .u8 (n : Int)] W fun e W' => e = .returned (.int .i64 64) ∧ W' = W))
    (CW : Hide (∀ W : World, T W → Calls Tryd.prog 11 #[] W fun e W' => e = .returned (.bool true) ∧ Below W.heap.size W W'))
    (W : World) (HT : Hide (T W)) :
    Calls Tryd.prog 8 #[.int .u8 op, .int .u8 (n : Int), vecV (a0, a1), vecV (b0, b1), .int .i64 i] W fun e W' => e = .returned (.bool true) ∧ Below W.heap.size W W' := by
  have B : Hide (Below W.heap.size W ((W.alloc (.cells #[.int .u64 (a0 : Int), .int .u64 (a1 : Int)] 25)).alloc (.cells #[.int .u64 (b0 : Int), .int .u64 (b1 : Int)] 25))) := hide (((Below.refl _ _).alloc (Nat.le_refl _) _).alloc (by simp) _)
  unfold vecV
  go_enter Tryd.func8, Tryd.ntmps8
  go_wp2_with ((with_reducible refine (CD.out _).mono ?_); rintro e wq ⟨rfl, hww⟩; replace hww := hww.symm; subst hww)
  refine (CW.out _ (TL.out _ _ HT.out B.out)).mono ?_
  rintro e wz ⟨rfl, hb⟩
  replace B := hide (B.out.trans (hb.mono B.out.size))
  clear hb
  go_wp2
  go_ret
  exact ⟨rfl, B.out⟩

set_option maxHeartbeats 8000000 in
theorem vlane_hi_64 (T : World → Prop) (TL : Hide (∀ W W' : World, T W → Below W.heap.size W W' → T W')) (op i : Int) (n a0 a1 b0 b1 : Nat) (d0 : decide (i < 0) = false) (d1 : decide (i ≥ 2) = true)
    (CD : Hide (∀ W : World, Calls Tryd.prog 32 #[.int .u8 (n : Int)] W fun e W' => e = .returned (.int .i64 64) ∧ W' = W))
    (CW : Hide (∀ W : World, T W → Calls Tryd.prog 11 #[] W fun e W' => e = .returned (.bool true) ∧ Below W.heap.size W W'))
    (W : World) (HT : Hide (T W)) :
    Calls Tryd.prog 8 #[.int .u8 op, .int .u8 (n : Int), vecV (a0, a1), vecV (b0, b1), .int .i64 i] W fun e W' => e = .returned (.bool true) ∧ Below W.heap.size W W' := by
  have B : Hide (Below W.heap.size W ((W.alloc (.cells #[.int .u64 (a0 : Int), .int .u64 (a1 : Int)] 25)).alloc (.cells #[.int .u64 (b0 : Int), .int .u64 (b1 : Int)] 25))) := hide (((Below.refl _ _).alloc (Nat.le_refl _) _).alloc (by simp) _)
  unfold vecV
  go_enter Tryd.func8, Tryd.ntmps8
  go_wp2_with ((with_reducible refine (CD.out _).mono ?_); rintro e wq ⟨rfl, hww⟩; replace hww := hww.symm; subst hww)
  refine (CW.out _ (TL.out _ _ HT.out B.out)).mono ?_
  rintro e wz ⟨rfl, hb⟩
  replace B := hide (B.out.trans (hb.mono B.out.size))
  clear hb
  go_wp2
  go_ret
  exact ⟨rfl, B.out⟩

set_option maxHeartbeats 8000000 in
theorem vlane_bad_64 (T : World → Prop) (TL : Hide (∀ W W' : World, T W → Below W.heap.size W W' → T W')) (op i : Int) (n a0 a1 b0 b1 : Nat) (d0 : decide (i < 0) = false) (d1 : decide (i ≥ 2) = false)
    (CD : Hide (∀ W : World, Calls Tryd.prog 32 #[.int .u8 (n : Int)] W fun e W' => e = .returned (.int .i64 64) ∧ W' = W))
    (C0 : Hide (∀ W : World, T W → Calls Tryd.prog 9 #[.int .u8 op, .int .i64 64, vecV (a0, a1), vecV (b0, b1)] W fun e W' => e = .returned (vecE ((0, 0), 2)) ∧ Below W.heap.size W W'))
    (CW : Hide (∀ W : World, T W → Calls Tryd.prog 11 #[] W fun e W' => e = .returned (.bool true) ∧ Below W.heap.size W W'))
    (W : World) (HT : Hide (T W)) :
    Calls Tryd.prog 8 #[.int .u8 op, .int .u8 (n : Int), vecV (a0, a1), vecV (b0, b1), .int .i64 i] W fun e W' => e = .returned (.bool true) ∧ Below W.heap.size W W' := by
  obtain ⟨wa, hwa⟩ : ∃ wa, ((W.alloc (.cells #[.int .u64 (a0 : Int), .int .u64 (a1 : Int)] 25)).alloc (.cells #[.int .u64 (b0 : Int), .int .u64 (b1 : Int)] 25)) = wa := ⟨_, rfl⟩
  have Fa : Hide (VBlk wa (W.heap.size) (a0, a1)) := hide (by rw [← hwa]; exact alloc_past (alloc_at rfl))
  have Fb : Hide (VBlk wa (W.heap.size + 1) (b0, b1)) := hide (by rw [← hwa]; exact alloc_at (by simp))
  have B : Hide (Below W.heap.size W wa) := hide (by rw [← hwa]; exact ((Below.refl _ _).alloc (Nat.le_refl _) _).alloc (by simp) _)
  have HU := hide hwa
  clear hwa
  unfold vecE at C0
  unfold vecV at C0 ⊢
  simp only at C0 ⊢
  go_enter Tryd.func8, Tryd.ntmps8
  go_wp2_with ((with_reducible refine (CD.out _).mono ?_); rintro e wq ⟨rfl, hww⟩; replace hww := hww.symm; subst hww)
  rw [HU.out]
  refine (C0.out _ (TL.out _ _ HT.out B.out)).mono ?_
  rintro e w0 ⟨rfl, hb⟩
  obtain ⟨u0, hu⟩ : ∃ u, w0.alloc (.cells #[.int .u64 0, .int .u64 0] 25) = u := ⟨_, rfl⟩
  replace Fa := hide (show VBlk u0 _ _ by rw [← hu]; exact alloc_past (Fa.out.later hb Fa.out.lt))
  replace Fb := hide (show VBlk u0 _ _ by rw [← hu]; exact alloc_past (Fb.out.later hb Fb.out.lt))
  have X0 : Hide (VBlk u0 w0.heap.size (0, 0)) := hide (by rw [← hu]; exact alloc_at rfl)
  replace B := hide (show Below W.heap.size W u0 by rw [← hu]; exact (B.out.trans (hb.mono B.out.size)).alloc (Nat.le_trans B.out.size hb.size) _)
  replace HU := hide hu
  clear hb hu
  go_wp2_with fail
  rw [HU.out]
  refine (CW.out _ (TL.out _ _ HT.out B.out)).mono ?_
  rintro e wz ⟨rfl, hb⟩
  replace B := hide (B.out.trans (hb.mono B.out.size))
  clear hb
  go_wp2
  go_ret
  exact ⟨rfl, B.out⟩

set_option maxHeartbeats 8000000 in
theorem vlane_ok_64 (T : World → Prop) (TL : Hide (∀ W W' : World, T W → Below W.heap.size W W' → T W')) (op i : Int) (n a0 a1 b0 b1 p q x y z : Nat) (d0 : decide (i < 0) = false) (d1 : decide (i ≥ 2) = false)
    (CD : Hide (∀ W : World, Calls Tryd.prog 32 #[.int .u8 (n : Int)] W fun e W' => e = .returned (.int .i64 64) ∧ W' = W))
    (C0 : Hide (∀ W : World, T W → Calls Tryd.prog 9 #[.int .u8 op, .int .i64 64, vecV (a0, a1), vecV (b0, b1)] W fun e W' => e = .returned (vecE ((p, q), 0)) ∧ Below W.heap.size W W'))
    (C1 : Hide (∀ W : World, T W → Calls Tryd.prog 33 #[vecV (a0, a1), .int .i64 64, .int .i64 i] W fun e W' => e = .returned (.tuple #[.int .u64 (x : Int), .int .i64 0]) ∧ Below W.heap.size W W'))
    (C2 : Hide (∀ W : World, T W → Calls Tryd.prog 33 #[vecV (b0, b1), .int .i64 64, .int .i64 i] W fun e W' => e = .returned (.tuple #[.int .u64 (y : Int), .int .i64 0]) ∧ Below W.heap.size W W'))
    (C3 : Hide (∀ W : World, T W → Calls Tryd.prog 34 #[.int .u8 op, .int .i64 64, .int .u64 (x : Int), .int .u64 (y : Int)] W fun e W' => e = .returned (.tuple #[.int .u64 (z : Int), .int .i64 0]) ∧ Below W.heap.size W W'))
    (C4 : Hide (∀ W : World, T W → Calls Tryd.prog 33 #[vecV (p, q), .int .i64 64, .int .i64 i] W fun e W' => e = .returned (.tuple #[.int .u64 (z : Int), .int .i64 0]) ∧ Below W.heap.size W W'))
    (CW : Hide (∀ W : World, T W → Calls Tryd.prog 11 #[] W fun e W' => e = .returned (.bool true) ∧ Below W.heap.size W W'))
    (W : World) (HT : Hide (T W)) :
    Calls Tryd.prog 8 #[.int .u8 op, .int .u8 (n : Int), vecV (a0, a1), vecV (b0, b1), .int .i64 i] W fun e W' => e = .returned (.bool true) ∧ Below W.heap.size W W' := by
  obtain ⟨wa, hwa⟩ : ∃ wa, ((W.alloc (.cells #[.int .u64 (a0 : Int), .int .u64 (a1 : Int)] 25)).alloc (.cells #[.int .u64 (b0 : Int), .int .u64 (b1 : Int)] 25)) = wa := ⟨_, rfl⟩
  have Fa : Hide (VBlk wa (W.heap.size) (a0, a1)) := hide (by rw [← hwa]; exact alloc_past (alloc_at rfl))
  have Fb : Hide (VBlk wa (W.heap.size + 1) (b0, b1)) := hide (by rw [← hwa]; exact alloc_at (by simp))
  have B : Hide (Below W.heap.size W wa) := hide (by rw [← hwa]; exact ((Below.refl _ _).alloc (Nat.le_refl _) _).alloc (by simp) _)
  have HU := hide hwa
  clear hwa
  unfold vecE at C0
  unfold vecV at C0 C1 C2 C4 ⊢
  simp only at C0 C1 C2 C4 ⊢
  go_enter Tryd.func8, Tryd.ntmps8
  go_wp2_with ((with_reducible refine (CD.out _).mono ?_); rintro e wq ⟨rfl, hww⟩; replace hww := hww.symm; subst hww)
  rw [HU.out]
  refine (C0.out _ (TL.out _ _ HT.out B.out)).mono ?_
  rintro e w0 ⟨rfl, hb⟩
  obtain ⟨u0, hu⟩ : ∃ u, w0.alloc (.cells #[.int .u64 (p : Int), .int .u64 (q : Int)] 25) = u := ⟨_, rfl⟩
  have gFa0 := (Fa.out.later hb Fa.out.lt).c0
  have gFa1 := (Fa.out.later hb Fa.out.lt).c1
  have lFa := (Fa.out.later hb Fa.out.lt).lt
  simp only at gFa0 gFa1
  replace Fa := hide (show VBlk u0 _ _ by rw [← hu]; exact alloc_past (Fa.out.later hb Fa.out.lt))
  replace Fb := hide (show VBlk u0 _ _ by rw [← hu]; exact alloc_past (Fb.out.later hb Fb.out.lt))
  have X0 : Hide (VBlk u0 w0.heap.size (p, q)) := hide (by rw [← hu]; exact alloc_at rfl)
  replace B := hide (show Below W.heap.size W u0 by rw [← hu]; exact (B.out.trans (hb.mono B.out.size)).alloc (Nat.le_trans B.out.size hb.size) _)
  replace HU := hide hu
  clear hb hu
  go_wp2_with fail
  rw [HU.out]
  clear lFa gFa0 gFa1
  refine (C1.out _ (TL.out _ _ HT.out B.out)).mono ?_
  rintro e w1 ⟨rfl, hb⟩
  replace Fa := hide (Fa.out.later hb Fa.out.lt)
  replace Fb := hide (Fb.out.later hb Fb.out.lt)
  replace X0 := hide (X0.out.later hb X0.out.lt)
  replace B := hide (B.out.trans (hb.mono B.out.size))
  have gFb0 := Fb.out.c0
  have gFb1 := Fb.out.c1
  simp only at gFb0 gFb1
  clear hb
  go_wp2_with fail
  clear gFb0 gFb1
  refine (C2.out _ (TL.out _ _ HT.out B.out)).mono ?_
  rintro e w2 ⟨rfl, hb⟩
  replace Fa := hide (Fa.out.later hb Fa.out.lt)
  replace Fb := hide (Fb.out.later hb Fb.out.lt)
  replace X0 := hide (X0.out.later hb X0.out.lt)
  replace B := hide (B.out.trans (hb.mono B.out.size))
  clear hb
  go_wp2_with fail
  refine (C3.out _ (TL.out _ _ HT.out B.out)).mono ?_
  rintro e w3 ⟨rfl, hb⟩
  replace Fa := hide (Fa.out.later hb Fa.out.lt)
  replace Fb := hide (Fb.out.later hb Fb.out.lt)
  replace X0 := hide (X0.out.later hb X0.out.lt)
  replace B := hide (B.out.trans (hb.mono B.out.size))
  have gX00 := X0.out.c0
  have gX01 := X0.out.c1
  simp only at gX00 gX01
  clear hb
  go_wp2_with fail
  clear gX00 gX01
  refine (C4.out _ (TL.out _ _ HT.out B.out)).mono ?_
  rintro e w4 ⟨rfl, hb⟩
  replace Fa := hide (Fa.out.later hb Fa.out.lt)
  replace Fb := hide (Fb.out.later hb Fb.out.lt)
  replace X0 := hide (X0.out.later hb X0.out.lt)
  replace B := hide (B.out.trans (hb.mono B.out.size))
  clear hb
  go_wp2_with fail
  refine (CW.out _ (TL.out _ _ HT.out B.out)).mono ?_
  rintro e wz ⟨rfl, hb⟩
  replace B := hide (B.out.trans (hb.mono B.out.size))
  clear hb
  go_wp2
  go_ret
  exact ⟨rfl, B.out⟩

end Go.Proofs.YtoihfmammmkloaaDoor
