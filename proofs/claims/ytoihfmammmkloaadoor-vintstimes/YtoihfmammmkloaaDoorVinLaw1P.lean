/-
  The walks of the laws that hold each answer of vints against the document's, over contracts that are handed in.
-/
import Derived.Test.YtoihfmammmkloaaDoorPkLan
set_option linter.unusedVariables false
set_option linter.unusedSimpArgs false
namespace Go.Proofs.YtoihfmammmkloaaDoor
open Go.RowKit Lan

set_option maxHeartbeats 8000000 in
theorem vtwo_walk (T : World → Prop) (TL : Hide (∀ W W' : World, T W → Below W.heap.size W W' → T W')) (op w : Int) (a0 a1 b0 b1 p q : Nat) (e1 : Int)
    (C0 : Hide (∀ W : World, T W → Calls Tryd.prog 9 #[.int .u8 op, .int .i64 w, vecV (a0, a1), vecV (b0, b1)] W fun e W' => e = .returned (vecE ((p, q), e1)) ∧ Below W.heap.size W W'))
    (C1 : Hide (∀ W : World, Calls Tryd.prog 10 #[.int .u8 op, .int .i64 w, vecV (a0, a1), vecV (b0, b1)] W fun e W' => e = .returned (vecE ((p, q), e1)) ∧ Below W.heap.size W W'))
    (CW : Hide (∀ W : World, T W → Calls Tryd.prog 11 #[] W fun e W' => e = .returned (.bool true) ∧ Below W.heap.size W W'))
    (W : World) (HT : Hide (T W)) :
    Calls Tryd.prog 3 #[.int .u8 op, .int .i64 w, vecV (a0, a1), vecV (b0, b1)] W fun e W' => e = .returned (.bool true) ∧ Below W.heap.size W W' := by
  obtain ⟨wa, hwa⟩ : ∃ wa, ((W.alloc (.cells #[.int .u64 (a0 : Int), .int .u64 (a1 : Int)] 25)).alloc (.cells #[.int .u64 (b0 : Int), .int .u64 (b1 : Int)] 25)) = wa := ⟨_, rfl⟩
  have Fa : Hide (VBlk wa (W.heap.size) (a0, a1)) := hide (by rw [← hwa]; exact alloc_past (alloc_at rfl))
  have Fb : Hide (VBlk wa (W.heap.size + 1) (b0, b1)) := hide (by rw [← hwa]; exact alloc_at (by simp))
  have B : Hide (Below W.heap.size W wa) := hide (by rw [← hwa]; exact ((Below.refl _ _).alloc (Nat.le_refl _) _).alloc (by simp) _)
  have HU := hide hwa
  clear hwa
  unfold vecE at C0 C1
  unfold vecV at C0 C1 ⊢
  simp only at C0 C1 ⊢
  go_enter Tryd.func3, Tryd.ntmps3
  go_wp2_with fail
  rw [HU.out]
  refine (C0.out _ (TL.out _ _ HT.out B.out)).mono ?_
  rintro e w0 ⟨rfl, hb⟩
  obtain ⟨u0, hu⟩ : ∃ u, w0.alloc (.cells #[.int .u64 (p : Int), .int .u64 (q : Int)] 25) = u := ⟨_, rfl⟩
  have ga0 := (Fa.out.later hb Fa.out.lt).c0
  have ga1 := (Fa.out.later hb Fa.out.lt).c1
  have la := (Fa.out.later hb Fa.out.lt).lt
  have gb0 := (Fb.out.later hb Fb.out.lt).c0
  have gb1 := (Fb.out.later hb Fb.out.lt).c1
  have lb := (Fb.out.later hb Fb.out.lt).lt
  simp only at ga0 ga1 gb0 gb1
  replace Fa := hide (show VBlk u0 _ _ by rw [← hu]; exact alloc_past (Fa.out.later hb Fa.out.lt))
  replace Fb := hide (show VBlk u0 _ _ by rw [← hu]; exact alloc_past (Fb.out.later hb Fb.out.lt))
  have X0 : Hide (VBlk u0 w0.heap.size (p, q)) := hide (by rw [← hu]; exact alloc_at rfl)
  replace B := hide (show Below W.heap.size W u0 by rw [← hu]; exact (B.out.trans (hb.mono B.out.size)).alloc (Nat.le_trans B.out.size hb.size) _)
  replace HU := hide hu
  clear hb hu
  go_wp2_with fail
  rw [HU.out]
  clear ga0 ga1 gb0 gb1 la lb
  refine (C1.out _).mono ?_
  rintro e w1 ⟨rfl, hb⟩
  obtain ⟨u1, hu⟩ : ∃ u, w1.alloc (.cells #[.int .u64 (p : Int), .int .u64 (q : Int)] 25) = u := ⟨_, rfl⟩
  have gX00 := (X0.out.later hb X0.out.lt).c0
  have gX01 := (X0.out.later hb X0.out.lt).c1
  have lX0 := (X0.out.later hb X0.out.lt).lt
  simp only at gX00 gX01
  replace Fa := hide (show VBlk u1 _ _ by rw [← hu]; exact alloc_past (Fa.out.later hb Fa.out.lt))
  replace Fb := hide (show VBlk u1 _ _ by rw [← hu]; exact alloc_past (Fb.out.later hb Fb.out.lt))
  replace X0 := hide (show VBlk u1 _ _ by rw [← hu]; exact alloc_past (X0.out.later hb X0.out.lt))
  have X1 : Hide (VBlk u1 w1.heap.size (p, q)) := hide (by rw [← hu]; exact alloc_at rfl)
  replace B := hide (show Below W.heap.size W u1 by rw [← hu]; exact (B.out.trans (hb.mono B.out.size)).alloc (Nat.le_trans B.out.size hb.size) _)
  replace HU := hide hu
  clear hb hu
  go_wp2_with fail
  rw [HU.out]
  clear gX00 gX01 lX0
  refine (CW.out _ (TL.out _ _ HT.out B.out)).mono ?_
  rintro e wz ⟨rfl, hb⟩
  replace B := hide (B.out.trans (hb.mono B.out.size))
  clear hb
  go_wp2
  go_ret
  exact ⟨rfl, B.out⟩

set_option maxHeartbeats 8000000 in
theorem vone_walk (T : World → Prop) (TL : Hide (∀ W W' : World, T W → Below W.heap.size W W' → T W')) (op w : Int) (a0 a1 n p q r s : Nat) (e1 e2 : Int)
    (C0 : Hide (∀ W : World, T W → Calls Tryd.prog 12 #[.int .u8 op, .int .i64 w, vecV (a0, a1)] W fun e W' => e = .returned (vecE ((p, q), e1)) ∧ Below W.heap.size W W'))
    (C1 : Hide (∀ W : World, Calls Tryd.prog 13 #[.int .u8 op, .int .i64 w, vecV (a0, a1)] W fun e W' => e = .returned (vecE ((p, q), e1)) ∧ Below W.heap.size W W'))
    (C2 : Hide (∀ W : World, T W → Calls Tryd.prog 14 #[.int .u8 op, .int .i64 w, vecV (a0, a1), .int .u64 (n : Int)] W fun e W' => e = .returned (vecE ((r, s), e2)) ∧ Below W.heap.size W W'))
    (C3 : Hide (∀ W : World, Calls Tryd.prog 15 #[.int .u8 op, .int .i64 w, vecV (a0, a1), .int .u64 (n : Int)] W fun e W' => e = .returned (vecE ((r, s), e2)) ∧ Below W.heap.size W W'))
    (CW : Hide (∀ W : World, T W → Calls Tryd.prog 11 #[] W fun e W' => e = .returned (.bool true) ∧ Below W.heap.size W W'))
    (W : World) (HT : Hide (T W)) :
    Calls Tryd.prog 4 #[.int .u8 op, .int .i64 w, vecV (a0, a1), .int .u64 (n : Int)] W fun e W' => e = .returned (.bool true) ∧ Below W.heap.size W W' := by
  obtain ⟨wa, hwa⟩ : ∃ wa, (W.alloc (.cells #[.int .u64 (a0 : Int), .int .u64 (a1 : Int)] 25)) = wa := ⟨_, rfl⟩
  have Fa : Hide (VBlk wa (W.heap.size) (a0, a1)) := hide (by rw [← hwa]; exact alloc_at rfl)
  have B : Hide (Below W.heap.size W wa) := hide (by rw [← hwa]; exact (Below.refl _ _).alloc (Nat.le_refl _) _)
  have HU := hide hwa
  clear hwa
  unfold vecE at C0 C1 C2 C3
  unfold vecV at C0 C1 C2 C3 ⊢
  simp only at C0 C1 C2 C3 ⊢
  go_enter Tryd.func4, Tryd.ntmps4
  go_wp2_with fail
  rw [HU.out]
  refine (C0.out _ (TL.out _ _ HT.out B.out)).mono ?_
  rintro e w0 ⟨rfl, hb⟩
  obtain ⟨u0, hu⟩ : ∃ u, w0.alloc (.cells #[.int .u64 (p : Int), .int .u64 (q : Int)] 25) = u := ⟨_, rfl⟩
  have ga0 := (Fa.out.later hb Fa.out.lt).c0
  have ga1 := (Fa.out.later hb Fa.out.lt).c1
  have la := (Fa.out.later hb Fa.out.lt).lt
  simp only at ga0 ga1
  replace Fa := hide (show VBlk u0 _ _ by rw [← hu]; exact alloc_past (Fa.out.later hb Fa.out.lt))
  have X0 : Hide (VBlk u0 w0.heap.size (p, q)) := hide (by rw [← hu]; exact alloc_at rfl)
  replace B := hide (show Below W.heap.size W u0 by rw [← hu]; exact (B.out.trans (hb.mono B.out.size)).alloc (Nat.le_trans B.out.size hb.size) _)
  replace HU := hide hu
  clear hb hu
  go_wp2_with fail
  rw [HU.out]
  clear ga0 ga1 la
  refine (C1.out _).mono ?_
  rintro e w1 ⟨rfl, hb⟩
  obtain ⟨u1, hu⟩ : ∃ u, w1.alloc (.cells #[.int .u64 (p : Int), .int .u64 (q : Int)] 25) = u := ⟨_, rfl⟩
  have ga0 := (Fa.out.later hb Fa.out.lt).c0
  have ga1 := (Fa.out.later hb Fa.out.lt).c1
  have la := (Fa.out.later hb Fa.out.lt).lt
  simp only at ga0 ga1
  replace Fa := hide (show VBlk u1 _ _ by rw [← hu]; exact alloc_past (Fa.out.later hb Fa.out.lt))
  replace X0 := hide (show VBlk u1 _ _ by rw [← hu]; exact alloc_past (X0.out.later hb X0.out.lt))
  have X1 : Hide (VBlk u1 w1.heap.size (p, q)) := hide (by rw [← hu]; exact alloc_at rfl)
  replace B := hide (show Below W.heap.size W u1 by rw [← hu]; exact (B.out.trans (hb.mono B.out.size)).alloc (Nat.le_trans B.out.size hb.size) _)
  replace HU := hide hu
  clear hb hu
  go_wp2_with fail
  rw [HU.out]
  clear ga0 ga1 la
  refine (C2.out _ (TL.out _ _ HT.out B.out)).mono ?_
  rintro e w2 ⟨rfl, hb⟩
  obtain ⟨u2, hu⟩ : ∃ u, w2.alloc (.cells #[.int .u64 (r : Int), .int .u64 (s : Int)] 25) = u := ⟨_, rfl⟩
  have ga0 := (Fa.out.later hb Fa.out.lt).c0
  have ga1 := (Fa.out.later hb Fa.out.lt).c1
  have la := (Fa.out.later hb Fa.out.lt).lt
  simp only at ga0 ga1
  replace Fa := hide (show VBlk u2 _ _ by rw [← hu]; exact alloc_past (Fa.out.later hb Fa.out.lt))
  replace X0 := hide (show VBlk u2 _ _ by rw [← hu]; exact alloc_past (X0.out.later hb X0.out.lt))
  replace X1 := hide (show VBlk u2 _ _ by rw [← hu]; exact alloc_past (X1.out.later hb X1.out.lt))
  have X2 : Hide (VBlk u2 w2.heap.size (r, s)) := hide (by rw [← hu]; exact alloc_at rfl)
  replace B := hide (show Below W.heap.size W u2 by rw [← hu]; exact (B.out.trans (hb.mono B.out.size)).alloc (Nat.le_trans B.out.size hb.size) _)
  replace HU := hide hu
  clear hb hu
  go_wp2_with fail
  rw [HU.out]
  clear ga0 ga1 la
  refine (C3.out _).mono ?_
  rintro e w3 ⟨rfl, hb⟩
  obtain ⟨u3, hu⟩ : ∃ u, w3.alloc (.cells #[.int .u64 (r : Int), .int .u64 (s : Int)] 25) = u := ⟨_, rfl⟩
  have gX00 := (X0.out.later hb X0.out.lt).c0
  have gX01 := (X0.out.later hb X0.out.lt).c1
  have lX0 := (X0.out.later hb X0.out.lt).lt
  have gX10 := (X1.out.later hb X1.out.lt).c0
  have gX11 := (X1.out.later hb X1.out.lt).c1
  have lX1 := (X1.out.later hb X1.out.lt).lt
  have gX20 := (X2.out.later hb X2.out.lt).c0
  have gX21 := (X2.out.later hb X2.out.lt).c1
  have lX2 := (X2.out.later hb X2.out.lt).lt
  simp only at gX00 gX01 gX10 gX11 gX20 gX21
  replace Fa := hide (show VBlk u3 _ _ by rw [← hu]; exact alloc_past (Fa.out.later hb Fa.out.lt))
  replace X0 := hide (show VBlk u3 _ _ by rw [← hu]; exact alloc_past (X0.out.later hb X0.out.lt))
  replace X1 := hide (show VBlk u3 _ _ by rw [← hu]; exact alloc_past (X1.out.later hb X1.out.lt))
  replace X2 := hide (show VBlk u3 _ _ by rw [← hu]; exact alloc_past (X2.out.later hb X2.out.lt))
  have X3 : Hide (VBlk u3 w3.heap.size (r, s)) := hide (by rw [← hu]; exact alloc_at rfl)
  replace B := hide (show Below W.heap.size W u3 by rw [← hu]; exact (B.out.trans (hb.mono B.out.size)).alloc (Nat.le_trans B.out.size hb.size) _)
  replace HU := hide hu
  clear hb hu
  go_wp2_with fail
  rw [HU.out]
  clear gX00 gX01 gX10 gX11 gX20 gX21 lX0 lX1 lX2
  refine (CW.out _ (TL.out _ _ HT.out B.out)).mono ?_
  rintro e wz ⟨rfl, hb⟩
  replace B := hide (B.out.trans (hb.mono B.out.size))
  clear hb
  go_wp2
  go_ret
  exact ⟨rfl, B.out⟩

set_option maxHeartbeats 8000000 in
theorem vthan_walk (T : World → Prop) (TL : Hide (∀ W W' : World, T W → Below W.heap.size W W' → T W')) (op w : Int) (a0 a1 b0 b1 p q : Nat) (e1 e2 e3 m : Int) (tb : Bool)
    (C0 : Hide (∀ W : World, T W → Calls Tryd.prog 16 #[.int .u8 op, .int .i64 w, vecV (a0, a1), vecV (b0, b1)] W fun e W' => e = .returned (vecE ((p, q), e1)) ∧ Below W.heap.size W W'))
    (C1 : Hide (∀ W : World, Calls Tryd.prog 17 #[.int .u8 op, .int .i64 w, vecV (a0, a1), vecV (b0, b1)] W fun e W' => e = .returned (vecE ((p, q), e1)) ∧ Below W.heap.size W W'))
    (C2 : Hide (∀ W : World, T W → Calls Tryd.prog 18 #[.int .i64 w, vecV (a0, a1)] W fun e W' => e = .returned (.tuple #[.bool tb, .int .i64 e2]) ∧ Below W.heap.size W W'))
    (C3 : Hide (∀ W : World, Calls Tryd.prog 19 #[.int .i64 w, vecV (a0, a1)] W fun e W' => e = .returned (.tuple #[.bool tb, .int .i64 e2]) ∧ Below W.heap.size W W'))
    (C4 : Hide (∀ W : World, T W → Calls Tryd.prog 20 #[.int .i64 w, vecV (a0, a1)] W fun e W' => e = .returned (.tuple #[.int .u64 m, .int .i64 e3]) ∧ Below W.heap.size W W'))
    (C5 : Hide (∀ W : World, Calls Tryd.prog 21 #[.int .i64 w, vecV (a0, a1)] W fun e W' => e = .returned (.tuple #[.int .u64 m, .int .i64 e3]) ∧ Below W.heap.size W W'))
    (CW : Hide (∀ W : World, T W → Calls Tryd.prog 11 #[] W fun e W' => e = .returned (.bool true) ∧ Below W.heap.size W W'))
    (W : World) (HT : Hide (T W)) :
    Calls Tryd.prog 5 #[.int .u8 op, .int .i64 w, vecV (a0, a1), vecV (b0, b1)] W fun e W' => e = .returned (.bool true) ∧ Below W.heap.size W W' := by
  obtain ⟨wa, hwa⟩ : ∃ wa, ((W.alloc (.cells #[.int .u64 (a0 : Int), .int .u64 (a1 : Int)] 25)).alloc (.cells #[.int .u64 (b0 : Int), .int .u64 (b1 : Int)] 25)) = wa := ⟨_, rfl⟩
  have Fa : Hide (VBlk wa (W.heap.size) (a0, a1)) := hide (by rw [← hwa]; exact alloc_past (alloc_at rfl))
  have Fb : Hide (VBlk wa (W.heap.size + 1) (b0, b1)) := hide (by rw [← hwa]; exact alloc_at (by simp))
  have B : Hide (Below W.heap.size W wa) := hide (by rw [← hwa]; exact ((Below.refl _ _).alloc (Nat.le_refl _) _).alloc (by simp) _)
  have HU := hide hwa
  clear hwa
  unfold vecE at C0 C1
  unfold vecV at C0 C1 C2 C3 C4 C5 ⊢
  simp only at C0 C1 C2 C3 C4 C5 ⊢
  go_enter Tryd.func5, Tryd.ntmps5
  go_wp2_with fail
  rw [HU.out]
  refine (C0.out _ (TL.out _ _ HT.out B.out)).mono ?_
  rintro e w0 ⟨rfl, hb⟩
  obtain ⟨u0, hu⟩ : ∃ u, w0.alloc (.cells #[.int .u64 (p : Int), .int .u64 (q : Int)] 25) = u := ⟨_, rfl⟩
  have ga0 := (Fa.out.later hb Fa.out.lt).c0
  have ga1 := (Fa.out.later hb Fa.out.lt).c1
  have la := (Fa.out.later hb Fa.out.lt).lt
  have gb0 := (Fb.out.later hb Fb.out.lt).c0
  have gb1 := (Fb.out.later hb Fb.out.lt).c1
  have lb := (Fb.out.later hb Fb.out.lt).lt
  simp only at ga0 ga1 gb0 gb1
  replace Fa := hide (show VBlk u0 _ _ by rw [← hu]; exact alloc_past (Fa.out.later hb Fa.out.lt))
  replace Fb := hide (show VBlk u0 _ _ by rw [← hu]; exact alloc_past (Fb.out.later hb Fb.out.lt))
  have X0 : Hide (VBlk u0 w0.heap.size (p, q)) := hide (by rw [← hu]; exact alloc_at rfl)
  replace B := hide (show Below W.heap.size W u0 by rw [← hu]; exact (B.out.trans (hb.mono B.out.size)).alloc (Nat.le_trans B.out.size hb.size) _)
  replace HU := hide hu
  clear hb hu
  go_wp2_with fail
  rw [HU.out]
  clear ga0 ga1 gb0 gb1 la lb
  refine (C1.out _).mono ?_
  rintro e w1 ⟨rfl, hb⟩
  obtain ⟨u1, hu⟩ : ∃ u, w1.alloc (.cells #[.int .u64 (p : Int), .int .u64 (q : Int)] 25) = u := ⟨_, rfl⟩
  have ga0 := (Fa.out.later hb Fa.out.lt).c0
  have ga1 := (Fa.out.later hb Fa.out.lt).c1
  have la := (Fa.out.later hb Fa.out.lt).lt
  have gb0 := (Fb.out.later hb Fb.out.lt).c0
  have gb1 := (Fb.out.later hb Fb.out.lt).c1
  have lb := (Fb.out.later hb Fb.out.lt).lt
  simp only at ga0 ga1 gb0 gb1
  replace Fa := hide (show VBlk u1 _ _ by rw [← hu]; exact alloc_past (Fa.out.later hb Fa.out.lt))
  replace Fb := hide (show VBlk u1 _ _ by rw [← hu]; exact alloc_past (Fb.out.later hb Fb.out.lt))
  replace X0 := hide (show VBlk u1 _ _ by rw [← hu]; exact alloc_past (X0.out.later hb X0.out.lt))
  have X1 : Hide (VBlk u1 w1.heap.size (p, q)) := hide (by rw [← hu]; exact alloc_at rfl)
  replace B := hide (show Below W.heap.size W u1 by rw [← hu]; exact (B.out.trans (hb.mono B.out.size)).alloc (Nat.le_trans B.out.size hb.size) _)
  replace HU := hide hu
  clear hb hu
  go_wp2_with fail
  rw [HU.out]
  clear ga0 ga1 gb0 gb1 la lb
  refine (C2.out _ (TL.out _ _ HT.out B.out)).mono ?_
  rintro e w2 ⟨rfl, hb⟩
  replace Fa := hide (Fa.out.later hb Fa.out.lt)
  replace Fb := hide (Fb.out.later hb Fb.out.lt)
  replace X0 := hide (X0.out.later hb X0.out.lt)
  replace X1 := hide (X1.out.later hb X1.out.lt)
  replace B := hide (B.out.trans (hb.mono B.out.size))
  have ga0 := Fa.out.c0
  have ga1 := Fa.out.c1
  have gb0 := Fb.out.c0
  have gb1 := Fb.out.c1
  simp only at ga0 ga1 gb0 gb1
  clear hb
  go_wp2_with fail
  clear ga0 ga1 gb0 gb1
  refine (C3.out _).mono ?_
  rintro e w3 ⟨rfl, hb⟩
  replace Fa := hide (Fa.out.later hb Fa.out.lt)
  replace Fb := hide (Fb.out.later hb Fb.out.lt)
  replace X0 := hide (X0.out.later hb X0.out.lt)
  replace X1 := hide (X1.out.later hb X1.out.lt)
  replace B := hide (B.out.trans (hb.mono B.out.size))
  have ga0 := Fa.out.c0
  have ga1 := Fa.out.c1
  have gb0 := Fb.out.c0
  have gb1 := Fb.out.c1
  simp only at ga0 ga1 gb0 gb1
  clear hb
  go_wp2_with fail
  clear ga0 ga1 gb0 gb1
  refine (C4.out _ (TL.out _ _ HT.out B.out)).mono ?_
  rintro e w4 ⟨rfl, hb⟩
  replace Fa := hide (Fa.out.later hb Fa.out.lt)
  replace Fb := hide (Fb.out.later hb Fb.out.lt)
  replace X0 := hide (X0.out.later hb X0.out.lt)
  replace X1 := hide (X1.out.later hb X1.out.lt)
  replace B := hide (B.out.trans (hb.mono B.out.size))
  have ga0 := Fa.out.c0
  have ga1 := Fa.out.c1
  have gb0 := Fb.out.c0
  have gb1 := Fb.out.c1
  simp only at ga0 ga1 gb0 gb1
  clear hb
  go_wp2_with fail
  clear ga0 ga1 gb0 gb1
  refine (C5.out _).mono ?_
  rintro e w5 ⟨rfl, hb⟩
  replace Fa := hide (Fa.out.later hb Fa.out.lt)
  replace Fb := hide (Fb.out.later hb Fb.out.lt)
  replace X0 := hide (X0.out.later hb X0.out.lt)
  replace X1 := hide (X1.out.later hb X1.out.lt)
  replace B := hide (B.out.trans (hb.mono B.out.size))
  have gX00 := X0.out.c0
  have gX01 := X0.out.c1
  have gX10 := X1.out.c0
  have gX11 := X1.out.c1
  simp only at gX00 gX01 gX10 gX11
  clear hb
  go_wp2_with fail
  clear gX00 gX01 gX10 gX11
  refine (CW.out _ (TL.out _ _ HT.out B.out)).mono ?_
  rintro e wz ⟨rfl, hb⟩
  replace B := hide (B.out.trans (hb.mono B.out.size))
  clear hb
  go_wp2
  go_ret
  exact ⟨rfl, B.out⟩

set_option maxHeartbeats 8000000 in
theorem vhalves_walk (T : World → Prop) (TL : Hide (∀ W W' : World, T W → Below W.heap.size W W' → T W')) (w : Int) (s h : Bool) (a0 a1 b0 b1 p q r t : Nat) (e1 e2 : Int)
    (C0 : Hide (∀ W : World, T W → Calls Tryd.prog 22 #[.int .i64 w, .bool s, vecV (a0, a1), vecV (b0, b1)] W fun e W' => e = .returned (vecE ((p, q), e1)) ∧ Below W.heap.size W W'))
    (C1 : Hide (∀ W : World, Calls Tryd.prog 23 #[.int .i64 w, .bool s, vecV (a0, a1), vecV (b0, b1)] W fun e W' => e = .returned (vecE ((p, q), e1)) ∧ Below W.heap.size W W'))
    (C2 : Hide (∀ W : World, T W → Calls Tryd.prog 24 #[.int .i64 w, .bool s, .bool h, vecV (a0, a1)] W fun e W' => e = .returned (vecE ((r, t), e2)) ∧ Below W.heap.size W W'))
    (C3 : Hide (∀ W : World, Calls Tryd.prog 25 #[.int .i64 w, .bool s, .bool h, vecV (a0, a1)] W fun e W' => e = .returned (vecE ((r, t), e2)) ∧ Below W.heap.size W W'))
    (CW : Hide (∀ W : World, T W → Calls Tryd.prog 11 #[] W fun e W' => e = .returned (.bool true) ∧ Below W.heap.size W W'))
    (W : World) (HT : Hide (T W)) :
    Calls Tryd.prog 6 #[.int .i64 w, .bool s, .bool h, vecV (a0, a1), vecV (b0, b1)] W fun e W' => e = .returned (.bool true) ∧ Below W.heap.size W W' := by
  obtain ⟨wa, hwa⟩ : ∃ wa, ((W.alloc (.cells #[.int .u64 (a0 : Int), .int .u64 (a1 : Int)] 25)).alloc (.cells #[.int .u64 (b0 : Int), .int .u64 (b1 : Int)] 25)) = wa := ⟨_, rfl⟩
  have Fa : Hide (VBlk wa (W.heap.size) (a0, a1)) := hide (by rw [← hwa]; exact alloc_past (alloc_at rfl))
  have Fb : Hide (VBlk wa (W.heap.size + 1) (b0, b1)) := hide (by rw [← hwa]; exact alloc_at (by simp))
  have B : Hide (Below W.heap.size W wa) := hide (by rw [← hwa]; exact ((Below.refl _ _).alloc (Nat.le_refl _) _).alloc (by simp) _)
  have HU := hide hwa
  clear hwa
  unfold vecE at C0 C1 C2 C3
  unfold vecV at C0 C1 C2 C3 ⊢
  simp only at C0 C1 C2 C3 ⊢
  go_enter Tryd.func6, Tryd.ntmps6
  go_wp2_with fail
  rw [HU.out]
  refine (C0.out _ (TL.out _ _ HT.out B.out)).mono ?_
  rintro e w0 ⟨rfl, hb⟩
  obtain ⟨u0, hu⟩ : ∃ u, w0.alloc (.cells #[.int .u64 (p : Int), .int .u64 (q : Int)] 25) = u := ⟨_, rfl⟩
  have ga0 := (Fa.out.later hb Fa.out.lt).c0
  have ga1 := (Fa.out.later hb Fa.out.lt).c1
  have la := (Fa.out.later hb Fa.out.lt).lt
  have gb0 := (Fb.out.later hb Fb.out.lt).c0
  have gb1 := (Fb.out.later hb Fb.out.lt).c1
  have lb := (Fb.out.later hb Fb.out.lt).lt
  simp only at ga0 ga1 gb0 gb1
  replace Fa := hide (show VBlk u0 _ _ by rw [← hu]; exact alloc_past (Fa.out.later hb Fa.out.lt))
  replace Fb := hide (show VBlk u0 _ _ by rw [← hu]; exact alloc_past (Fb.out.later hb Fb.out.lt))
  have X0 : Hide (VBlk u0 w0.heap.size (p, q)) := hide (by rw [← hu]; exact alloc_at rfl)
  replace B := hide (show Below W.heap.size W u0 by rw [← hu]; exact (B.out.trans (hb.mono B.out.size)).alloc (Nat.le_trans B.out.size hb.size) _)
  replace HU := hide hu
  clear hb hu
  go_wp2_with fail
  rw [HU.out]
  clear ga0 ga1 gb0 gb1 la lb
  refine (C1.out _).mono ?_
  rintro e w1 ⟨rfl, hb⟩
  obtain ⟨u1, hu⟩ : ∃ u, w1.alloc (.cells #[.int .u64 (p : Int), .int .u64 (q : Int)] 25) = u := ⟨_, rfl⟩
  have ga0 := (Fa.out.later hb Fa.out.lt).c0
  have ga1 := (Fa.out.later hb Fa.out.lt).c1
  have la := (Fa.out.later hb Fa.out.lt).lt
  have gb0 := (Fb.out.later hb Fb.out.lt).c0
  have gb1 := (Fb.out.later hb Fb.out.lt).c1
  have lb := (Fb.out.later hb Fb.out.lt).lt
  simp only at ga0 ga1 gb0 gb1
  replace Fa := hide (show VBlk u1 _ _ by rw [← hu]; exact alloc_past (Fa.out.later hb Fa.out.lt))
  replace Fb := hide (show VBlk u1 _ _ by rw [← hu]; exact alloc_past (Fb.out.later hb Fb.out.lt))
  replace X0 := hide (show VBlk u1 _ _ by rw [← hu]; exact alloc_past (X0.out.later hb X0.out.lt))
  have X1 : Hide (VBlk u1 w1.heap.size (p, q)) := hide (by rw [← hu]; exact alloc_at rfl)
  replace B := hide (show Below W.heap.size W u1 by rw [← hu]; exact (B.out.trans (hb.mono B.out.size)).alloc (Nat.le_trans B.out.size hb.size) _)
  replace HU := hide hu
  clear hb hu
  go_wp2_with fail
  rw [HU.out]
  clear ga0 ga1 gb0 gb1 la lb
  refine (C2.out _ (TL.out _ _ HT.out B.out)).mono ?_
  rintro e w2 ⟨rfl, hb⟩
  obtain ⟨u2, hu⟩ : ∃ u, w2.alloc (.cells #[.int .u64 (r : Int), .int .u64 (t : Int)] 25) = u := ⟨_, rfl⟩
  have ga0 := (Fa.out.later hb Fa.out.lt).c0
  have ga1 := (Fa.out.later hb Fa.out.lt).c1
  have la := (Fa.out.later hb Fa.out.lt).lt
  have gb0 := (Fb.out.later hb Fb.out.lt).c0
  have gb1 := (Fb.out.later hb Fb.out.lt).c1
  have lb := (Fb.out.later hb Fb.out.lt).lt
  simp only at ga0 ga1 gb0 gb1
  replace Fa := hide (show VBlk u2 _ _ by rw [← hu]; exact alloc_past (Fa.out.later hb Fa.out.lt))
  replace Fb := hide (show VBlk u2 _ _ by rw [← hu]; exact alloc_past (Fb.out.later hb Fb.out.lt))
  replace X0 := hide (show VBlk u2 _ _ by rw [← hu]; exact alloc_past (X0.out.later hb X0.out.lt))
  replace X1 := hide (show VBlk u2 _ _ by rw [← hu]; exact alloc_past (X1.out.later hb X1.out.lt))
  have X2 : Hide (VBlk u2 w2.heap.size (r, t)) := hide (by rw [← hu]; exact alloc_at rfl)
  replace B := hide (show Below W.heap.size W u2 by rw [← hu]; exact (B.out.trans (hb.mono B.out.size)).alloc (Nat.le_trans B.out.size hb.size) _)
  replace HU := hide hu
  clear hb hu
  go_wp2_with fail
  rw [HU.out]
  clear ga0 ga1 gb0 gb1 la lb
  refine (C3.out _).mono ?_
  rintro e w3 ⟨rfl, hb⟩
  obtain ⟨u3, hu⟩ : ∃ u, w3.alloc (.cells #[.int .u64 (r : Int), .int .u64 (t : Int)] 25) = u := ⟨_, rfl⟩
  have gX00 := (X0.out.later hb X0.out.lt).c0
  have gX01 := (X0.out.later hb X0.out.lt).c1
  have lX0 := (X0.out.later hb X0.out.lt).lt
  have gX10 := (X1.out.later hb X1.out.lt).c0
  have gX11 := (X1.out.later hb X1.out.lt).c1
  have lX1 := (X1.out.later hb X1.out.lt).lt
  have gX20 := (X2.out.later hb X2.out.lt).c0
  have gX21 := (X2.out.later hb X2.out.lt).c1
  have lX2 := (X2.out.later hb X2.out.lt).lt
  simp only at gX00 gX01 gX10 gX11 gX20 gX21
  replace Fa := hide (show VBlk u3 _ _ by rw [← hu]; exact alloc_past (Fa.out.later hb Fa.out.lt))
  replace Fb := hide (show VBlk u3 _ _ by rw [← hu]; exact alloc_past (Fb.out.later hb Fb.out.lt))
  replace X0 := hide (show VBlk u3 _ _ by rw [← hu]; exact alloc_past (X0.out.later hb X0.out.lt))
  replace X1 := hide (show VBlk u3 _ _ by rw [← hu]; exact alloc_past (X1.out.later hb X1.out.lt))
  replace X2 := hide (show VBlk u3 _ _ by rw [← hu]; exact alloc_past (X2.out.later hb X2.out.lt))
  have X3 : Hide (VBlk u3 w3.heap.size (r, t)) := hide (by rw [← hu]; exact alloc_at rfl)
  replace B := hide (show Below W.heap.size W u3 by rw [← hu]; exact (B.out.trans (hb.mono B.out.size)).alloc (Nat.le_trans B.out.size hb.size) _)
  replace HU := hide hu
  clear hb hu
  go_wp2_with fail
  rw [HU.out]
  clear gX00 gX01 gX10 gX11 gX20 gX21 lX0 lX1 lX2
  refine (CW.out _ (TL.out _ _ HT.out B.out)).mono ?_
  rintro e wz ⟨rfl, hb⟩
  replace B := hide (B.out.trans (hb.mono B.out.size))
  clear hb
  go_wp2
  go_ret
  exact ⟨rfl, B.out⟩

set_option maxHeartbeats 8000000 in
theorem vtimes_walk (T : World → Prop) (TL : Hide (∀ W W' : World, T W → Below W.heap.size W W' → T W')) (w : Int) (s h : Bool) (a0 a1 b0 b1 p q r t x y : Nat) (e1 e2 e3 : Int)
    (C0 : Hide (∀ W : World, T W → Calls Tryd.prog 26 #[.int .i64 w, .bool s, .bool h, vecV (a0, a1), vecV (b0, b1)] W fun e W' => e = .returned (vecE ((p, q), e1)) ∧ Below W.heap.size W W'))
    (C1 : Hide (∀ W : World, Calls Tryd.prog 27 #[.int .i64 w, .bool s, .bool h, vecV (a0, a1), vecV (b0, b1)] W fun e W' => e = .returned (vecE ((p, q), e1)) ∧ Below W.heap.size W W'))
    (C2 : Hide (∀ W : World, T W → Calls Tryd.prog 28 #[.int .i64 w, .bool s, vecV (a0, a1)] W fun e W' => e = .returned (vecE ((r, t), e2)) ∧ Below W.heap.size W W'))
    (C3 : Hide (∀ W : World, Calls Tryd.prog 29 #[.int .i64 w, .bool s, vecV (a0, a1)] W fun e W' => e = .returned (vecE ((r, t), e2)) ∧ Below W.heap.size W W'))
    (C4 : Hide (∀ W : World, T W → Calls Tryd.prog 30 #[vecV (a0, a1), vecV (b0, b1)] W fun e W' => e = .returned (vecE ((x, y), e3)) ∧ Below W.heap.size W W'))
    (C5 : Hide (∀ W : World, Calls Tryd.prog 31 #[vecV (a0, a1), vecV (b0, b1)] W fun e W' => e = .returned (vecE ((x, y), e3)) ∧ Below W.heap.size W W'))
    (CW : Hide (∀ W : World, T W → Calls Tryd.prog 11 #[] W fun e W' => e = .returned (.bool true) ∧ Below W.heap.size W W'))
    (W : World) (HT : Hide (T W)) :
    Calls Tryd.prog 7 #[.int .i64 w, .bool s, .bool h, vecV (a0, a1), vecV (b0, b1)] W fun e W' => e = .returned (.bool true) ∧ Below W.heap.size W W' := by
  obtain ⟨wa, hwa⟩ : ∃ wa, ((W.alloc (.cells #[.int .u64 (a0 : Int), .int .u64 (a1 : Int)] 25)).alloc (.cells #[.int .u64 (b0 : Int), .int .u64 (b1 : Int)] 25)) = wa := ⟨_, rfl⟩
  have Fa : Hide (VBlk wa (W.heap.size) (a0, a1)) := hide (by rw [← hwa]; exact alloc_past (alloc_at rfl))
  have Fb : Hide (VBlk wa (W.heap.size + 1) (b0, b1)) := hide (by rw [← hwa]; exact alloc_at (by simp))
  have B : Hide (Below W.heap.size W wa) := hide (by rw [← hwa]; exact ((Below.refl _ _).alloc (Nat.le_refl _) _).alloc (by simp) _)
  have HU := hide hwa
  clear hwa
  unfold vecE at C0 C1 C2 C3 C4 C5
  unfold vecV at C0 C1 C2 C3 C4 C5 ⊢
  simp only at C0 C1 C2 C3 C4 C5 ⊢
  go_enter Tryd.func7, Tryd.ntmps7
  go_wp2_with fail
  rw [HU.out]
  refine (C0.out _ (TL.out _ _ HT.out B.out)).mono ?_
  rintro e w0 ⟨rfl, hb⟩
  obtain ⟨u0, hu⟩ : ∃ u, w0.alloc (.cells #[.int .u64 (p : Int), .int .u64 (q : Int)] 25) = u := ⟨_, rfl⟩
  have ga0 := (Fa.out.later hb Fa.out.lt).c0
  have ga1 := (Fa.out.later hb Fa.out.lt).c1
  have la := (Fa.out.later hb Fa.out.lt).lt
  have gb0 := (Fb.out.later hb Fb.out.lt).c0
  have gb1 := (Fb.out.later hb Fb.out.lt).c1
  have lb := (Fb.out.later hb Fb.out.lt).lt
  simp only at ga0 ga1 gb0 gb1
  replace Fa := hide (show VBlk u0 _ _ by rw [← hu]; exact alloc_past (Fa.out.later hb Fa.out.lt))
  replace Fb := hide (show VBlk u0 _ _ by rw [← hu]; exact alloc_past (Fb.out.later hb Fb.out.lt))
  have X0 : Hide (VBlk u0 w0.heap.size (p, q)) := hide (by rw [← hu]; exact alloc_at rfl)
  replace B := hide (show Below W.heap.size W u0 by rw [← hu]; exact (B.out.trans (hb.mono B.out.size)).alloc (Nat.le_trans B.out.size hb.size) _)
  replace HU := hide hu
  clear hb hu
  go_wp2_with fail
  rw [HU.out]
  clear ga0 ga1 gb0 gb1 la lb
  refine (C1.out _).mono ?_
  rintro e w1 ⟨rfl, hb⟩
  obtain ⟨u1, hu⟩ : ∃ u, w1.alloc (.cells #[.int .u64 (p : Int), .int .u64 (q : Int)] 25) = u := ⟨_, rfl⟩
  have ga0 := (Fa.out.later hb Fa.out.lt).c0
  have ga1 := (Fa.out.later hb Fa.out.lt).c1
  have la := (Fa.out.later hb Fa.out.lt).lt
  have gb0 := (Fb.out.later hb Fb.out.lt).c0
  have gb1 := (Fb.out.later hb Fb.out.lt).c1
  have lb := (Fb.out.later hb Fb.out.lt).lt
  simp only at ga0 ga1 gb0 gb1
  replace Fa := hide (show VBlk u1 _ _ by rw [← hu]; exact alloc_past (Fa.out.later hb Fa.out.lt))
  replace Fb := hide (show VBlk u1 _ _ by rw [← hu]; exact alloc_past (Fb.out.later hb Fb.out.lt))
  replace X0 := hide (show VBlk u1 _ _ by rw [← hu]; exact alloc_past (X0.out.later hb X0.out.lt))
  have X1 : Hide (VBlk u1 w1.heap.size (p, q)) := hide (by rw [← hu]; exact alloc_at rfl)
  replace B := hide (show Below W.heap.size W u1 by rw [← hu]; exact (B.out.trans (hb.mono B.out.size)).alloc (Nat.le_trans B.out.size hb.size) _)
  replace HU := hide hu
  clear hb hu
  go_wp2_with fail
  rw [HU.out]
  clear ga0 ga1 gb0 gb1 la lb
  refine (C2.out _ (TL.out _ _ HT.out B.out)).mono ?_
  rintro e w2 ⟨rfl, hb⟩
  obtain ⟨u2, hu⟩ : ∃ u, w2.alloc (.cells #[.int .u64 (r : Int), .int .u64 (t : Int)] 25) = u := ⟨_, rfl⟩
  have ga0 := (Fa.out.later hb Fa.out.lt).c0
  have ga1 := (Fa.out.later hb Fa.out.lt).c1
  have la := (Fa.out.later hb Fa.out.lt).lt
  have gb0 := (Fb.out.later hb Fb.out.lt).c0
  have gb1 := (Fb.out.later hb Fb.out.lt).c1
  have lb := (Fb.out.later hb Fb.out.lt).lt
  simp only at ga0 ga1 gb0 gb1
  replace Fa := hide (show VBlk u2 _ _ by rw [← hu]; exact alloc_past (Fa.out.later hb Fa.out.lt))
  replace Fb := hide (show VBlk u2 _ _ by rw [← hu]; exact alloc_past (Fb.out.later hb Fb.out.lt))
  replace X0 := hide (show VBlk u2 _ _ by rw [← hu]; exact alloc_past (X0.out.later hb X0.out.lt))
  replace X1 := hide (show VBlk u2 _ _ by rw [← hu]; exact alloc_past (X1.out.later hb X1.out.lt))
  have X2 : Hide (VBlk u2 w2.heap.size (r, t)) := hide (by rw [← hu]; exact alloc_at rfl)
  replace B := hide (show Below W.heap.size W u2 by rw [← hu]; exact (B.out.trans (hb.mono B.out.size)).alloc (Nat.le_trans B.out.size hb.size) _)
  replace HU := hide hu
  clear hb hu
  go_wp2_with fail
  rw [HU.out]
  clear ga0 ga1 gb0 gb1 la lb
  refine (C3.out _).mono ?_
  rintro e w3 ⟨rfl, hb⟩
  obtain ⟨u3, hu⟩ : ∃ u, w3.alloc (.cells #[.int .u64 (r : Int), .int .u64 (t : Int)] 25) = u := ⟨_, rfl⟩
  have ga0 := (Fa.out.later hb Fa.out.lt).c0
  have ga1 := (Fa.out.later hb Fa.out.lt).c1
  have la := (Fa.out.later hb Fa.out.lt).lt
  have gb0 := (Fb.out.later hb Fb.out.lt).c0
  have gb1 := (Fb.out.later hb Fb.out.lt).c1
  have lb := (Fb.out.later hb Fb.out.lt).lt
  simp only at ga0 ga1 gb0 gb1
  replace Fa := hide (show VBlk u3 _ _ by rw [← hu]; exact alloc_past (Fa.out.later hb Fa.out.lt))
  replace Fb := hide (show VBlk u3 _ _ by rw [← hu]; exact alloc_past (Fb.out.later hb Fb.out.lt))
  replace X0 := hide (show VBlk u3 _ _ by rw [← hu]; exact alloc_past (X0.out.later hb X0.out.lt))
  replace X1 := hide (show VBlk u3 _ _ by rw [← hu]; exact alloc_past (X1.out.later hb X1.out.lt))
  replace X2 := hide (show VBlk u3 _ _ by rw [← hu]; exact alloc_past (X2.out.later hb X2.out.lt))
  have X3 : Hide (VBlk u3 w3.heap.size (r, t)) := hide (by rw [← hu]; exact alloc_at rfl)
  replace B := hide (show Below W.heap.size W u3 by rw [← hu]; exact (B.out.trans (hb.mono B.out.size)).alloc (Nat.le_trans B.out.size hb.size) _)
  replace HU := hide hu
  clear hb hu
  go_wp2_with fail
  rw [HU.out]
  clear ga0 ga1 gb0 gb1 la lb
  refine (C4.out _ (TL.out _ _ HT.out B.out)).mono ?_
  rintro e w4 ⟨rfl, hb⟩
  obtain ⟨u4, hu⟩ : ∃ u, w4.alloc (.cells #[.int .u64 (x : Int), .int .u64 (y : Int)] 25) = u := ⟨_, rfl⟩
  have ga0 := (Fa.out.later hb Fa.out.lt).c0
  have ga1 := (Fa.out.later hb Fa.out.lt).c1
  have la := (Fa.out.later hb Fa.out.lt).lt
  have gb0 := (Fb.out.later hb Fb.out.lt).c0
  have gb1 := (Fb.out.later hb Fb.out.lt).c1
  have lb := (Fb.out.later hb Fb.out.lt).lt
  simp only at ga0 ga1 gb0 gb1
  replace Fa := hide (show VBlk u4 _ _ by rw [← hu]; exact alloc_past (Fa.out.later hb Fa.out.lt))
  replace Fb := hide (show VBlk u4 _ _ by rw [← hu]; exact alloc_past (Fb.out.later hb Fb.out.lt))
  replace X0 := hide (show VBlk u4 _ _ by rw [← hu]; exact alloc_past (X0.out.later hb X0.out.lt))
  replace X1 := hide (show VBlk u4 _ _ by rw [← hu]; exact alloc_past (X1.out.later hb X1.out.lt))
  replace X2 := hide (show VBlk u4 _ _ by rw [← hu]; exact alloc_past (X2.out.later hb X2.out.lt))
  replace X3 := hide (show VBlk u4 _ _ by rw [← hu]; exact alloc_past (X3.out.later hb X3.out.lt))
  have X4 : Hide (VBlk u4 w4.heap.size (x, y)) := hide (by rw [← hu]; exact alloc_at rfl)
  replace B := hide (show Below W.heap.size W u4 by rw [← hu]; exact (B.out.trans (hb.mono B.out.size)).alloc (Nat.le_trans B.out.size hb.size) _)
  replace HU := hide hu
  clear hb hu
  go_wp2_with fail
  rw [HU.out]
  clear ga0 ga1 gb0 gb1 la lb
  refine (C5.out _).mono ?_
  rintro e w5 ⟨rfl, hb⟩
  obtain ⟨u5, hu⟩ : ∃ u, w5.alloc (.cells #[.int .u64 (x : Int), .int .u64 (y : Int)] 25) = u := ⟨_, rfl⟩
  have gX00 := (X0.out.later hb X0.out.lt).c0
  have gX01 := (X0.out.later hb X0.out.lt).c1
  have lX0 := (X0.out.later hb X0.out.lt).lt
  have gX10 := (X1.out.later hb X1.out.lt).c0
  have gX11 := (X1.out.later hb X1.out.lt).c1
  have lX1 := (X1.out.later hb X1.out.lt).lt
  have gX20 := (X2.out.later hb X2.out.lt).c0
  have gX21 := (X2.out.later hb X2.out.lt).c1
  have lX2 := (X2.out.later hb X2.out.lt).lt
  have gX30 := (X3.out.later hb X3.out.lt).c0
  have gX31 := (X3.out.later hb X3.out.lt).c1
  have lX3 := (X3.out.later hb X3.out.lt).lt
  have gX40 := (X4.out.later hb X4.out.lt).c0
  have gX41 := (X4.out.later hb X4.out.lt).c1
  have lX4 := (X4.out.later hb X4.out.lt).lt
  simp only at gX00 gX01 gX10 gX11 gX20 gX21 gX30 gX31 gX40 gX41
  replace Fa := hide (show VBlk u5 _ _ by rw [← hu]; exact alloc_past (Fa.out.later hb Fa.out.lt))
  replace Fb := hide (show VBlk u5 _ _ by rw [← hu]; exact alloc_past (Fb.out.later hb Fb.out.lt))
  replace X0 := hide (show VBlk u5 _ _ by rw [← hu]; exact alloc_past (X0.out.later hb X0.out.lt))
  replace X1 := hide (show VBlk u5 _ _ by rw [← hu]; exact alloc_past (X1.out.later hb X1.out.lt))
  replace X2 := hide (show VBlk u5 _ _ by rw [← hu]; exact alloc_past (X2.out.later hb X2.out.lt))
  replace X3 := hide (show VBlk u5 _ _ by rw [← hu]; exact alloc_past (X3.out.later hb X3.out.lt))
  replace X4 := hide (show VBlk u5 _ _ by rw [← hu]; exact alloc_past (X4.out.later hb X4.out.lt))
  have X5 : Hide (VBlk u5 w5.heap.size (x, y)) := hide (by rw [← hu]; exact alloc_at rfl)
  replace B := hide (show Below W.heap.size W u5 by rw [← hu]; exact (B.out.trans (hb.mono B.out.size)).alloc (Nat.le_trans B.out.size hb.size) _)
  replace HU := hide hu
  clear hb hu
  go_wp2_with fail
  rw [HU.out]
  clear gX00 gX01 gX10 gX11 gX20 gX21 gX30 gX31 gX40 gX41 lX0 lX1 lX2 lX3 lX4
  refine (CW.out _ (TL.out _ _ HT.out B.out)).mono ?_
  rintro e wz ⟨rfl, hb⟩
  replace B := hide (B.out.trans (hb.mono B.out.size))
  clear hb
  go_wp2
  go_ret
  exact ⟨rfl, B.out⟩

end Go.Proofs.YtoihfmammmkloaaDoor
