/-
  The walks of the laws of vfloats, over contracts that are handed in.
-/
import Derived.Test.YtpeckiaimellmaaDoorPkLan
import Derived.Test.YtpeckiaimellmaaDoorPkBase
set_option linter.unusedVariables false
set_option linter.unusedSimpArgs false
namespace Go.Proofs.YtpeckiaimellmaaDoor
open Go.RowKit Lan

set_option maxHeartbeats 8000000 in
theorem vftwo_walk (T : World → Prop) (TL : Hide (∀ W W' : World, T W → Below W.heap.size W W' → T W')) (op w : Int) (a0 a1 b0 b1 p q : Nat) (e1 : Int)
    (C0 : Hide (∀ W : World, T W → Calls Tryd.prog 9 #[.int .u8 op, .int .i64 w, vecV (a0, a1), vecV (b0, b1)] W fun e W' => e = .returned (vecE ((p, q), e1)) ∧ Below W.heap.size W W'))
    (C1 : Hide (∀ W : World, Calls Tryd.prog 10 #[.int .u8 op, .int .i64 w, vecV (a0, a1), vecV (b0, b1)] W fun e W' => e = .returned (vecE ((p, q), e1)) ∧ Below W.heap.size W W'))
    (CW : Hide (∀ W : World, T W → Calls Tryd.prog 11 #[] W fun e W' => e = .returned (.bool true) ∧ Below W.heap.size W W'))
    (W : World) (HT : Hide (T W)) :
    Calls Tryd.prog 3 #[.int .u8 op, .int .i64 w, vecV (a0, a1), vecV (b0, b1)] W fun e W' => e = .returned (.bool true) ∧ Below W.heap.size W W' := by
  obtain ⟨wa, hwa⟩ : ∃ wa, ((W.alloc (.cells #[.int .u64 (a0 : Int), .int .u64 (a1 : Int)] 25)).alloc (.cells #[.int .u64 (b0 : Int), .int .u64 (b1 : Int)] 25)) = wa := ⟨_, rfl⟩
  have Fa : Hide (VBlk wa (W.heap.size) (a0, a1)) := hide (by rw [← hwa]; exact alloc_past (alloc_at rfl))
  have Fb : Hide (VBlk wa (W.heap.size + 1) (b0, b1)) := hide (by rw [← hwa]; exact alloc_at (by simp))
  have B : Hide (Below W.heap.size W wa) := hide (by rw [← hwa]; exact ((Below.refl _ _).alloc (Nat.le_refl _) _).alloc (by simp) _)
  have HU := hide hwa
  clear hwa
  unfold vecE at C0 C1
  unfold vecV at C0 C1 ⊢
  simp only at C0 C1 ⊢
  go_enter Tryd.func3, Tryd.ntmps3
  go_wp2_with fail
  rw [HU.out]
  refine (C0.out _ (TL.out _ _ HT.out B.out)).mono ?_
  rintro e w0 ⟨rfl, hb⟩
  obtain ⟨u0, hu⟩ : ∃ u, w0.alloc (.cells #[.int .u64 (p : Int), .int .u64 (q : Int)] 25) = u := ⟨_, rfl⟩
  have ga0 := (Fa.out.later hb Fa.out.lt).c0
  have ga1 := (Fa.out.later hb Fa.out.lt).c1
  have la := (Fa.out.later hb Fa.out.lt).lt
  have gb0 := (Fb.out.later hb Fb.out.lt).c0
  have gb1 := (Fb.out.later hb Fb.out.lt).c1
  have lb := (Fb.out.later hb Fb.out.lt).lt
  simp only at ga0 ga1 gb0 gb1
  replace Fa := hide (show VBlk u0 _ _ by rw [← hu]; exact alloc_past (Fa.out.later hb Fa.out.lt))
  replace Fb := hide (show VBlk u0 _ _ by rw [← hu]; exact alloc_past (Fb.out.later hb Fb.out.lt))
  have X0 : Hide (VBlk u0 w0.heap.size (p, q)) := hide (by rw [← hu]; exact alloc_at rfl)
  replace B := hide (show Below W.heap.size W u0 by rw [← hu]; exact (B.out.trans (hb.mono B.out.size)).alloc (Nat.le_trans B.out.size hb.size) _)
  replace HU := hide hu
  clear hb hu
  go_wp2_with fail
  rw [HU.out]
  clear ga0 ga1 gb0 gb1 la lb
  refine (C1.out _).mono ?_
  rintro e w1 ⟨rfl, hb⟩
  obtain ⟨u1, hu⟩ : ∃ u, w1.alloc (.cells #[.int .u64 (p : Int), .int .u64 (q : Int)] 25) = u := ⟨_, rfl⟩
  have gX00 := (X0.out.later hb X0.out.lt).c0
  have gX01 := (X0.out.later hb X0.out.lt).c1
  have lX0 := (X0.out.later hb X0.out.lt).lt
  simp only at gX00 gX01
  replace Fa := hide (show VBlk u1 _ _ by rw [← hu]; exact alloc_past (Fa.out.later hb Fa.out.lt))
  replace Fb := hide (show VBlk u1 _ _ by rw [← hu]; exact alloc_past (Fb.out.later hb Fb.out.lt))
  replace X0 := hide (show VBlk u1 _ _ by rw [← hu]; exact alloc_past (X0.out.later hb X0.out.lt))
  have X1 : Hide (VBlk u1 w1.heap.size (p, q)) := hide (by rw [← hu]; exact alloc_at rfl)
  replace B := hide (show Below W.heap.size W u1 by rw [← hu]; exact (B.out.trans (hb.mono B.out.size)).alloc (Nat.le_trans B.out.size hb.size) _)
  replace HU := hide hu
  clear hb hu
  go_wp2_with fail
  rw [HU.out]
  clear gX00 gX01 lX0
  refine (CW.out _ (TL.out _ _ HT.out B.out)).mono ?_
  rintro e wz ⟨rfl, hb⟩
  replace B := hide (B.out.trans (hb.mono B.out.size))
  clear hb
  go_wp2
  go_ret
  exact ⟨rfl, B.out⟩

set_option maxHeartbeats 8000000 in
theorem vfthan_walk (T : World → Prop) (TL : Hide (∀ W W' : World, T W → Below W.heap.size W W' → T W')) (op w : Int) (a0 a1 b0 b1 p q : Nat) (e1 : Int)
    (C0 : Hide (∀ W : World, T W → Calls Tryd.prog 14 #[.int .u8 op, .int .i64 w, vecV (a0, a1), vecV (b0, b1)] W fun e W' => e = .returned (vecE ((p, q), e1)) ∧ Below W.heap.size W W'))
    (C1 : Hide (∀ W : World, Calls Tryd.prog 15 #[.int .u8 op, .int .i64 w, vecV (a0, a1), vecV (b0, b1)] W fun e W' => e = .returned (vecE ((p, q), e1)) ∧ Below W.heap.size W W'))
    (CW : Hide (∀ W : World, T W → Calls Tryd.prog 11 #[] W fun e W' => e = .returned (.bool true) ∧ Below W.heap.size W W'))
    (W : World) (HT : Hide (T W)) :
    Calls Tryd.prog 5 #[.int .u8 op, .int .i64 w, vecV (a0, a1), vecV (b0, b1)] W fun e W' => e = .returned (.bool true) ∧ Below W.heap.size W W' := by
  obtain ⟨wa, hwa⟩ : ∃ wa, ((W.alloc (.cells #[.int .u64 (a0 : Int), .int .u64 (a1 : Int)] 25)).alloc (.cells #[.int .u64 (b0 : Int), .int .u64 (b1 : Int)] 25)) = wa := ⟨_, rfl⟩
  have Fa : Hide (VBlk wa (W.heap.size) (a0, a1)) := hide (by rw [← hwa]; exact alloc_past (alloc_at rfl))
  have Fb : Hide (VBlk wa (W.heap.size + 1) (b0, b1)) := hide (by rw [← hwa]; exact alloc_at (by simp))
  have B : Hide (Below W.heap.size W wa) := hide (by rw [← hwa]; exact ((Below.refl _ _).alloc (Nat.le_refl _) _).alloc (by simp) _)
  have HU := hide hwa
  clear hwa
  unfold vecE at C0 C1
  unfold vecV at C0 C1 ⊢
  simp only at C0 C1 ⊢
  go_enter Tryd.func5, Tryd.ntmps5
  go_wp2_with fail
  rw [HU.out]
  refine (C0.out _ (TL.out _ _ HT.out B.out)).mono ?_
  rintro e w0 ⟨rfl, hb⟩
  obtain ⟨u0, hu⟩ : ∃ u, w0.alloc (.cells #[.int .u64 (p : Int), .int .u64 (q : Int)] 25) = u := ⟨_, rfl⟩
  have ga0 := (Fa.out.later hb Fa.out.lt).c0
  have ga1 := (Fa.out.later hb Fa.out.lt).c1
  have la := (Fa.out.later hb Fa.out.lt).lt
  have gb0 := (Fb.out.later hb Fb.out.lt).c0
  have gb1 := (Fb.out.later hb Fb.out.lt).c1
  have lb := (Fb.out.later hb Fb.out.lt).lt
  simp only at ga0 ga1 gb0 gb1
  replace Fa := hide (show VBlk u0 _ _ by rw [← hu]; exact alloc_past (Fa.out.later hb Fa.out.lt))
  replace Fb := hide (show VBlk u0 _ _ by rw [← hu]; exact alloc_past (Fb.out.later hb Fb.out.lt))
  have X0 : Hide (VBlk u0 w0.heap.size (p, q)) := hide (by rw [← hu]; exact alloc_at rfl)
  replace B := hide (show Below W.heap.size W u0 by rw [← hu]; exact (B.out.trans (hb.mono B.out.size)).alloc (Nat.le_trans B.out.size hb.size) _)
  replace HU := hide hu
  clear hb hu
  go_wp2_with fail
  rw [HU.out]
  clear ga0 ga1 gb0 gb1 la lb
  refine (C1.out _).mono ?_
  rintro e w1 ⟨rfl, hb⟩
  obtain ⟨u1, hu⟩ : ∃ u, w1.alloc (.cells #[.int .u64 (p : Int), .int .u64 (q : Int)] 25) = u := ⟨_, rfl⟩
  have gX00 := (X0.out.later hb X0.out.lt).c0
  have gX01 := (X0.out.later hb X0.out.lt).c1
  have lX0 := (X0.out.later hb X0.out.lt).lt
  simp only at gX00 gX01
  replace Fa := hide (show VBlk u1 _ _ by rw [← hu]; exact alloc_past (Fa.out.later hb Fa.out.lt))
  replace Fb := hide (show VBlk u1 _ _ by rw [← hu]; exact alloc_past (Fb.out.later hb Fb.out.lt))
  replace X0 := hide (show VBlk u1 _ _ by rw [← hu]; exact alloc_past (X0.out.later hb X0.out.lt))
  have X1 : Hide (VBlk u1 w1.heap.size (p, q)) := hide (by rw [← hu]; exact alloc_at rfl)
  replace B := hide (show Below W.heap.size W u1 by rw [← hu]; exact (B.out.trans (hb.mono B.out.size)).alloc (Nat.le_trans B.out.size hb.size) _)
  replace HU := hide hu
  clear hb hu
  go_wp2_with fail
  rw [HU.out]
  clear gX00 gX01 lX0
  refine (CW.out _ (TL.out _ _ HT.out B.out)).mono ?_
  rintro e wz ⟨rfl, hb⟩
  replace B := hide (B.out.trans (hb.mono B.out.size))
  clear hb
  go_wp2
  go_ret
  exact ⟨rfl, B.out⟩

set_option maxHeartbeats 8000000 in
theorem vfone_walk (T : World → Prop) (TL : Hide (∀ W W' : World, T W → Below W.heap.size W W' → T W')) (op w : Int) (a0 a1 p q : Nat) (e1 : Int)
    (C0 : Hide (∀ W : World, T W → Calls Tryd.prog 12 #[.int .u8 op, .int .i64 w, vecV (a0, a1)] W fun e W' => e = .returned (vecE ((p, q), e1)) ∧ Below W.heap.size W W'))
    (C1 : Hide (∀ W : World, Calls Tryd.prog 13 #[.int .u8 op, .int .i64 w, vecV (a0, a1)] W fun e W' => e = .returned (vecE ((p, q), e1)) ∧ Below W.heap.size W W'))
    (CW : Hide (∀ W : World, T W → Calls Tryd.prog 11 #[] W fun e W' => e = .returned (.bool true) ∧ Below W.heap.size W W'))
    (W : World) (HT : Hide (T W)) :
    Calls Tryd.prog 4 #[.int .u8 op, .int .i64 w, vecV (a0, a1)] W fun e W' => e = .returned (.bool true) ∧ Below W.heap.size W W' := by
  obtain ⟨wa, hwa⟩ : ∃ wa, (W.alloc (.cells #[.int .u64 (a0 : Int), .int .u64 (a1 : Int)] 25)) = wa := ⟨_, rfl⟩
  have Fa : Hide (VBlk wa (W.heap.size) (a0, a1)) := hide (by rw [← hwa]; exact alloc_at rfl)
  have B : Hide (Below W.heap.size W wa) := hide (by rw [← hwa]; exact (Below.refl _ _).alloc (Nat.le_refl _) _)
  have HU := hide hwa
  clear hwa
  unfold vecE at C0 C1
  unfold vecV at C0 C1 ⊢
  simp only at C0 C1 ⊢
  go_enter Tryd.func4, Tryd.ntmps4
  go_wp2_with fail
  rw [HU.out]
  refine (C0.out _ (TL.out _ _ HT.out B.out)).mono ?_
  rintro e w0 ⟨rfl, hb⟩
  obtain ⟨u0, hu⟩ : ∃ u, w0.alloc (.cells #[.int .u64 (p : Int), .int .u64 (q : Int)] 25) = u := ⟨_, rfl⟩
  have ga0 := (Fa.out.later hb Fa.out.lt).c0
  have ga1 := (Fa.out.later hb Fa.out.lt).c1
  have la := (Fa.out.later hb Fa.out.lt).lt
  simp only at ga0 ga1
  replace Fa := hide (show VBlk u0 _ _ by rw [← hu]; exact alloc_past (Fa.out.later hb Fa.out.lt))
  have X0 : Hide (VBlk u0 w0.heap.size (p, q)) := hide (by rw [← hu]; exact alloc_at rfl)
  replace B := hide (show Below W.heap.size W u0 by rw [← hu]; exact (B.out.trans (hb.mono B.out.size)).alloc (Nat.le_trans B.out.size hb.size) _)
  replace HU := hide hu
  clear hb hu
  go_wp2_with fail
  rw [HU.out]
  clear ga0 ga1 la
  refine (C1.out _).mono ?_
  rintro e w1 ⟨rfl, hb⟩
  obtain ⟨u1, hu⟩ : ∃ u, w1.alloc (.cells #[.int .u64 (p : Int), .int .u64 (q : Int)] 25) = u := ⟨_, rfl⟩
  have gX00 := (X0.out.later hb X0.out.lt).c0
  have gX01 := (X0.out.later hb X0.out.lt).c1
  have lX0 := (X0.out.later hb X0.out.lt).lt
  simp only at gX00 gX01
  replace Fa := hide (show VBlk u1 _ _ by rw [← hu]; exact alloc_past (Fa.out.later hb Fa.out.lt))
  replace X0 := hide (show VBlk u1 _ _ by rw [← hu]; exact alloc_past (X0.out.later hb X0.out.lt))
  have X1 : Hide (VBlk u1 w1.heap.size (p, q)) := hide (by rw [← hu]; exact alloc_at rfl)
  replace B := hide (show Below W.heap.size W u1 by rw [← hu]; exact (B.out.trans (hb.mono B.out.size)).alloc (Nat.le_trans B.out.size hb.size) _)
  replace HU := hide hu
  clear hb hu
  go_wp2_with fail
  rw [HU.out]
  clear gX00 gX01 lX0
  refine (CW.out _ (TL.out _ _ HT.out B.out)).mono ?_
  rintro e wz ⟨rfl, hb⟩
  replace B := hide (B.out.trans (hb.mono B.out.size))
  clear hb
  go_wp2
  go_ret
  exact ⟨rfl, B.out⟩

set_option maxHeartbeats 8000000 in
theorem vfconvs_walk (T : World → Prop) (TL : Hide (∀ W W' : World, T W → Below W.heap.size W W' → T W')) (w : Int) (s : Bool) (a0 a1 p q r x : Nat) (e1 e2 : Int)
    (C0 : Hide (∀ W : World, T W → Calls Tryd.prog 16 #[.int .i64 w, .bool s, vecV (a0, a1)] W fun e W' => e = .returned (vecE ((p, q), e1)) ∧ Below W.heap.size W W'))
    (C1 : Hide (∀ W : World, Calls Tryd.prog 17 #[.int .i64 w, .bool s, vecV (a0, a1)] W fun e W' => e = .returned (vecE ((p, q), e1)) ∧ Below W.heap.size W W'))
    (C2 : Hide (∀ W : World, T W → Calls Tryd.prog 18 #[.int .i64 w, .bool s, vecV (a0, a1)] W fun e W' => e = .returned (vecE ((r, x), e2)) ∧ Below W.heap.size W W'))
    (C3 : Hide (∀ W : World, Calls Tryd.prog 19 #[.int .i64 w, .bool s, vecV (a0, a1)] W fun e W' => e = .returned (vecE ((r, x), e2)) ∧ Below W.heap.size W W'))
    (CW : Hide (∀ W : World, T W → Calls Tryd.prog 11 #[] W fun e W' => e = .returned (.bool true) ∧ Below W.heap.size W W'))
    (W : World) (HT : Hide (T W)) :
    Calls Tryd.prog 6 #[.int .i64 w, .bool s, vecV (a0, a1)] W fun e W' => e = .returned (.bool true) ∧ Below W.heap.size W W' := by
  obtain ⟨wa, hwa⟩ : ∃ wa, (W.alloc (.cells #[.int .u64 (a0 : Int), .int .u64 (a1 : Int)] 25)) = wa := ⟨_, rfl⟩
  have Fa : Hide (VBlk wa (W.heap.size) (a0, a1)) := hide (by rw [← hwa]; exact alloc_at rfl)
  have B : Hide (Below W.heap.size W wa) := hide (by rw [← hwa]; exact (Below.refl _ _).alloc (Nat.le_refl _) _)
  have HU := hide hwa
  clear hwa
  unfold vecE at C0 C1 C2 C3
  unfold vecV at C0 C1 C2 C3 ⊢
  simp only at C0 C1 C2 C3 ⊢
  go_enter Tryd.func6, Tryd.ntmps6
  go_wp2_with fail
  rw [HU.out]
  refine (C0.out _ (TL.out _ _ HT.out B.out)).mono ?_
  rintro e w0 ⟨rfl, hb⟩
  obtain ⟨u0, hu⟩ : ∃ u, w0.alloc (.cells #[.int .u64 (p : Int), .int .u64 (q : Int)] 25) = u := ⟨_, rfl⟩
  have ga0 := (Fa.out.later hb Fa.out.lt).c0
  have ga1 := (Fa.out.later hb Fa.out.lt).c1
  have la := (Fa.out.later hb Fa.out.lt).lt
  simp only at ga0 ga1
  replace Fa := hide (show VBlk u0 _ _ by rw [← hu]; exact alloc_past (Fa.out.later hb Fa.out.lt))
  have X0 : Hide (VBlk u0 w0.heap.size (p, q)) := hide (by rw [← hu]; exact alloc_at rfl)
  replace B := hide (show Below W.heap.size W u0 by rw [← hu]; exact (B.out.trans (hb.mono B.out.size)).alloc (Nat.le_trans B.out.size hb.size) _)
  replace HU := hide hu
  clear hb hu
  go_wp2_with fail
  rw [HU.out]
  clear ga0 ga1 la
  refine (C1.out _).mono ?_
  rintro e w1 ⟨rfl, hb⟩
  obtain ⟨u1, hu⟩ : ∃ u, w1.alloc (.cells #[.int .u64 (p : Int), .int .u64 (q : Int)] 25) = u := ⟨_, rfl⟩
  have ga0 := (Fa.out.later hb Fa.out.lt).c0
  have ga1 := (Fa.out.later hb Fa.out.lt).c1
  have la := (Fa.out.later hb Fa.out.lt).lt
  simp only at ga0 ga1
  replace Fa := hide (show VBlk u1 _ _ by rw [← hu]; exact alloc_past (Fa.out.later hb Fa.out.lt))
  replace X0 := hide (show VBlk u1 _ _ by rw [← hu]; exact alloc_past (X0.out.later hb X0.out.lt))
  have X1 : Hide (VBlk u1 w1.heap.size (p, q)) := hide (by rw [← hu]; exact alloc_at rfl)
  replace B := hide (show Below W.heap.size W u1 by rw [← hu]; exact (B.out.trans (hb.mono B.out.size)).alloc (Nat.le_trans B.out.size hb.size) _)
  replace HU := hide hu
  clear hb hu
  go_wp2_with fail
  rw [HU.out]
  clear ga0 ga1 la
  refine (C2.out _ (TL.out _ _ HT.out B.out)).mono ?_
  rintro e w2 ⟨rfl, hb⟩
  obtain ⟨u2, hu⟩ : ∃ u, w2.alloc (.cells #[.int .u64 (r : Int), .int .u64 (x : Int)] 25) = u := ⟨_, rfl⟩
  have ga0 := (Fa.out.later hb Fa.out.lt).c0
  have ga1 := (Fa.out.later hb Fa.out.lt).c1
  have la := (Fa.out.later hb Fa.out.lt).lt
  simp only at ga0 ga1
  replace Fa := hide (show VBlk u2 _ _ by rw [← hu]; exact alloc_past (Fa.out.later hb Fa.out.lt))
  replace X0 := hide (show VBlk u2 _ _ by rw [← hu]; exact alloc_past (X0.out.later hb X0.out.lt))
  replace X1 := hide (show VBlk u2 _ _ by rw [← hu]; exact alloc_past (X1.out.later hb X1.out.lt))
  have X2 : Hide (VBlk u2 w2.heap.size (r, x)) := hide (by rw [← hu]; exact alloc_at rfl)
  replace B := hide (show Below W.heap.size W u2 by rw [← hu]; exact (B.out.trans (hb.mono B.out.size)).alloc (Nat.le_trans B.out.size hb.size) _)
  replace HU := hide hu
  clear hb hu
  go_wp2_with fail
  rw [HU.out]
  clear ga0 ga1 la
  refine (C3.out _).mono ?_
  rintro e w3 ⟨rfl, hb⟩
  obtain ⟨u3, hu⟩ : ∃ u, w3.alloc (.cells #[.int .u64 (r : Int), .int .u64 (x : Int)] 25) = u := ⟨_, rfl⟩
  have gX00 := (X0.out.later hb X0.out.lt).c0
  have gX01 := (X0.out.later hb X0.out.lt).c1
  have lX0 := (X0.out.later hb X0.out.lt).lt
  have gX10 := (X1.out.later hb X1.out.lt).c0
  have gX11 := (X1.out.later hb X1.out.lt).c1
  have lX1 := (X1.out.later hb X1.out.lt).lt
  have gX20 := (X2.out.later hb X2.out.lt).c0
  have gX21 := (X2.out.later hb X2.out.lt).c1
  have lX2 := (X2.out.later hb X2.out.lt).lt
  simp only at gX00 gX01 gX10 gX11 gX20 gX21
  replace Fa := hide (show VBlk u3 _ _ by rw [← hu]; exact alloc_past (Fa.out.later hb Fa.out.lt))
  replace X0 := hide (show VBlk u3 _ _ by rw [← hu]; exact alloc_past (X0.out.later hb X0.out.lt))
  replace X1 := hide (show VBlk u3 _ _ by rw [← hu]; exact alloc_past (X1.out.later hb X1.out.lt))
  replace X2 := hide (show VBlk u3 _ _ by rw [← hu]; exact alloc_past (X2.out.later hb X2.out.lt))
  have X3 : Hide (VBlk u3 w3.heap.size (r, x)) := hide (by rw [← hu]; exact alloc_at rfl)
  replace B := hide (show Below W.heap.size W u3 by rw [← hu]; exact (B.out.trans (hb.mono B.out.size)).alloc (Nat.le_trans B.out.size hb.size) _)
  replace HU := hide hu
  clear hb hu
  go_wp2_with fail
  rw [HU.out]
  clear gX00 gX01 gX10 gX11 gX20 gX21 lX0 lX1 lX2
  refine (CW.out _ (TL.out _ _ HT.out B.out)).mono ?_
  rintro e wz ⟨rfl, hb⟩
  replace B := hide (B.out.trans (hb.mono B.out.size))
  clear hb
  go_wp2
  go_ret
  exact ⟨rfl, B.out⟩

set_option maxHeartbeats 8000000 in
theorem vfworks_walk (T : World → Prop) (TL : Hide (∀ W W' : World, T W → Below W.heap.size W W' → T W')) (m o : Nat)
    (C0 : Hide (∀ W : World, T W → Calls Tryd.prog 33 #[.int .i64 32, .int .u64 1065353216] W fun e W' => e = .returned (vecE ((m, m), 0)) ∧ Below W.heap.size W W'))
    (C1 : Hide (∀ W : World, T W → Calls Tryd.prog 33 #[.int .i64 32, .int .u64 1073741824] W fun e W' => e = .returned (vecE ((o, o), 0)) ∧ Below W.heap.size W W'))
    (C2 : Hide (∀ W : World, T W → Calls Tryd.prog 9 #[.int .u8 1, .int .i64 32, vecV (m, m), vecV (m, m)] W fun e W' => e = .returned (vecE ((o, o), 0)) ∧ Below W.heap.size W W'))
    
    (W : World) (HT : Hide (T W)) :
    Calls Tryd.prog 11 #[] W fun e W' => e = .returned (.bool true) ∧ Below W.heap.size W W' := by
  have B : Hide (Below W.heap.size W W) := hide (Below.refl _ _)
  unfold vecE at C0 C1 C2
  unfold vecV at C0 C1 C2
  simp only at C0 C1 C2
  go_enter Tryd.func11, Tryd.ntmps11
  go_wp2_with fail
  refine (C0.out _ (TL.out _ _ HT.out B.out)).mono ?_
  rintro e w0 ⟨rfl, hb⟩
  obtain ⟨u0, hu⟩ : ∃ u, w0.alloc (.cells #[.int .u64 (m : Int), .int .u64 (m : Int)] 25) = u := ⟨_, rfl⟩
  have X0 : Hide (VBlk u0 w0.heap.size (m, m)) := hide (by rw [← hu]; exact alloc_at rfl)
  replace B := hide (show Below W.heap.size W u0 by rw [← hu]; exact (B.out.trans (hb.mono B.out.size)).alloc (Nat.le_trans B.out.size hb.size) _)
  replace HU := hide hu
  clear hb hu
  go_wp2_with fail
  rw [HU.out]
  refine (C1.out _ (TL.out _ _ HT.out B.out)).mono ?_
  rintro e w1 ⟨rfl, hb⟩
  obtain ⟨u1, hu⟩ : ∃ u, w1.alloc (.cells #[.int .u64 (o : Int), .int .u64 (o : Int)] 25) = u := ⟨_, rfl⟩
  have gX00 := (X0.out.later hb X0.out.lt).c0
  have gX01 := (X0.out.later hb X0.out.lt).c1
  have lX0 := (X0.out.later hb X0.out.lt).lt
  simp only at gX00 gX01
  replace X0 := hide (show VBlk u1 _ _ by rw [← hu]; exact alloc_past (X0.out.later hb X0.out.lt))
  have X1 : Hide (VBlk u1 w1.heap.size (o, o)) := hide (by rw [← hu]; exact alloc_at rfl)
  replace B := hide (show Below W.heap.size W u1 by rw [← hu]; exact (B.out.trans (hb.mono B.out.size)).alloc (Nat.le_trans B.out.size hb.size) _)
  replace HU := hide hu
  clear hb hu
  go_wp2_with fail
  rw [HU.out]
  clear lX0 gX00 gX01
  refine (C2.out _ (TL.out _ _ HT.out B.out)).mono ?_
  rintro e w2 ⟨rfl, hb⟩
  obtain ⟨u2, hu⟩ : ∃ u, w2.alloc (.cells #[.int .u64 (o : Int), .int .u64 (o : Int)] 25) = u := ⟨_, rfl⟩
  have gX10 := (X1.out.later hb X1.out.lt).c0
  have gX11 := (X1.out.later hb X1.out.lt).c1
  have lX1 := (X1.out.later hb X1.out.lt).lt
  simp only at gX10 gX11
  replace X0 := hide (show VBlk u2 _ _ by rw [← hu]; exact alloc_past (X0.out.later hb X0.out.lt))
  replace X1 := hide (show VBlk u2 _ _ by rw [← hu]; exact alloc_past (X1.out.later hb X1.out.lt))
  have X2 : Hide (VBlk u2 w2.heap.size (o, o)) := hide (by rw [← hu]; exact alloc_at rfl)
  replace B := hide (show Below W.heap.size W u2 by rw [← hu]; exact (B.out.trans (hb.mono B.out.size)).alloc (Nat.le_trans B.out.size hb.size) _)
  replace HU := hide hu
  clear hb hu
  go_wp2
  rw [HU.out]
  go_ret
  exact ⟨rfl, B.out⟩

set_option maxHeartbeats 8000000 in
theorem vfwidths_walk (T : World → Prop) (TL : Hide (∀ W W' : World, T W → Below W.heap.size W W' → T W')) (a0 a1 p q r x : Nat)
    (C0 : Hide (∀ W : World, T W → Calls Tryd.prog 20 #[vecV (a0, a1)] W fun e W' => e = .returned (vecV (p, q)) ∧ Below W.heap.size W W'))
    (C1 : Hide (∀ W : World, Calls Tryd.prog 21 #[vecV (a0, a1)] W fun e W' => e = .returned (vecV (p, q)) ∧ Below W.heap.size W W'))
    (C2 : Hide (∀ W : World, T W → Calls Tryd.prog 22 #[vecV (a0, a1)] W fun e W' => e = .returned (vecV (r, x)) ∧ Below W.heap.size W W'))
    (C3 : Hide (∀ W : World, Calls Tryd.prog 23 #[vecV (a0, a1)] W fun e W' => e = .returned (vecV (r, x)) ∧ Below W.heap.size W W'))
    (CW : Hide (∀ W : World, T W → Calls Tryd.prog 11 #[] W fun e W' => e = .returned (.bool true) ∧ Below W.heap.size W W'))
    (W : World) (HT : Hide (T W)) :
    Calls Tryd.prog 7 #[vecV (a0, a1)] W fun e W' => e = .returned (.bool true) ∧ Below W.heap.size W W' := by
  obtain ⟨wa, hwa⟩ : ∃ wa, W.alloc (.cells #[.int .u64 (a0 : Int), .int .u64 (a1 : Int)] 25) = wa := ⟨_, rfl⟩
  have FA : Hide (VBlk wa W.heap.size (a0, a1)) := hide (by rw [← hwa]; exact alloc_at rfl)
  have B : Hide (Below W.heap.size W wa) := hide (by rw [← hwa]; exact (Below.refl _ _).alloc (Nat.le_refl _) _)
  have TA : ∀ V, Below wa.heap.size wa V → T V := fun V hV => TL.out _ _ HT.out (B.out.trans (hV.mono B.out.size))
  have HW := hide hwa
  clear hwa
  obtain ⟨I, F, _, hF, hin⟩ := family wa
  unfold vecV at C0 C1 C2 C3 ⊢
  simp only at C0 C1 C2 C3 ⊢
  have E0 := hide (in_family hF hin (f := 20) (args := #[.agg #[.int .u64 (a0 : Int), .int .u64 (a1 : Int)]]) (r := .returned (.agg #[.int .u64 (p : Int), .int .u64 (q : Int)])) (fun W1 hW1 => (C0.out W1 (TA W1 hW1)).mono fun e W'' ⟨he, hb⟩ => ⟨he, hW1.trans (hb.mono hW1.size)⟩))
  have E1 := hide (in_family hF hin (f := 21) (args := #[.agg #[.int .u64 (a0 : Int), .int .u64 (a1 : Int)]]) (r := .returned (.agg #[.int .u64 (p : Int), .int .u64 (q : Int)])) (fun W1 hW1 => (C1.out W1).mono fun e W'' ⟨he, hb⟩ => ⟨he, hW1.trans (hb.mono hW1.size)⟩))
  have E2 := hide (in_family hF hin (f := 22) (args := #[.agg #[.int .u64 (a0 : Int), .int .u64 (a1 : Int)]]) (r := .returned (.agg #[.int .u64 (r : Int), .int .u64 (x : Int)])) (fun W1 hW1 => (C2.out W1 (TA W1 hW1)).mono fun e W'' ⟨he, hb⟩ => ⟨he, hW1.trans (hb.mono hW1.size)⟩))
  have E3 := hide (in_family hF hin (f := 23) (args := #[.agg #[.int .u64 (a0 : Int), .int .u64 (a1 : Int)]]) (r := .returned (.agg #[.int .u64 (r : Int), .int .u64 (x : Int)])) (fun W1 hW1 => (C3.out W1).mono fun e W'' ⟨he, hb⟩ => ⟨he, hW1.trans (hb.mono hW1.size)⟩))
  have E4 := hide (in_family hF hin (f := 11) (args := #[]) (r := .returned (.bool true)) (fun W1 hW1 => (CW.out W1 (TA W1 hW1)).mono fun e W'' ⟨he, hb⟩ => ⟨he, hW1.trans (hb.mono hW1.size)⟩))
  have k0 : ∀ i, (F i).cell? ⟨W.heap.size, 0, none⟩ = some (.int .u64 (a0 : Int)) := fun i => (FA.out.later (hF i) FA.out.lt).c0
  have k1 : ∀ i, (F i).cell? ⟨W.heap.size, 1, none⟩ = some (.int .u64 (a1 : Int)) := fun i => (FA.out.later (hF i) FA.out.lt).c1
  have HF := hide hF
  have IN := hide hin
  clear hF hin C0 C1 C2 C3 CW TA
  go_enter Tryd.func7, Tryd.ntmps7
  go_wp2_with fail
  refine wp_region_class F (by kernel_rfl) (by kernel_rfl) ?_ ?_
  · refine IN.out _ ?_
    rw [HW.out]; exact (Below.refl _ _).drew
  repeat (refine wpQuiet_step (fun K hK => ?_); go_simp; first | (refine hK _ ?_; clear hK K) | (apply Exists.intro; refine ⟨fun _ => ?_, hK _ ?_⟩; (first | exact E0.out _ | exact E1.out _ | exact E2.out _ | exact E3.out _ | exact E4.out _); clear hK K))
  refine wpQuiet_nil ?_
  rintro _ ⟨i, rfl⟩
  go_wp2_with fail
  go_ret
  exact ⟨rfl, B.out.trans ((HF.out i).mono B.out.size)⟩

end Go.Proofs.YtpeckiaimellmaaDoor
