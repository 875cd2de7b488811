/-
  VintsDot and VintsSums over contracts that are handed in.
-/
import Derived.Test.YtoihfmammmkloabDoorPkRef
set_option linter.unusedVariables false
set_option linter.unusedSimpArgs false
namespace Go.Proofs.YtoihfmammmkloabDoor
open Go.RowKit Lan

def DotAt (W : World) (g0 g1 g2 : Nat) (l h d : Nat × Nat) (wr : World) : Prop := VBlk wr g0 l ∧ VBlk wr g1 h ∧ VBlk wr g2 d ∧ Below W.heap.size W wr

set_option maxHeartbeats 8000000 in
theorem vdot_walk (T : World → Prop) (TL : Hide (∀ W W' : World, T W → Below W.heap.size W W' → T W')) (a0 a1 b0 b1 l0 l1 h0 h1 d0 d1 x0 x1 x2 x3 y0 y1 y2 y3 z0 z1 z2 z3 : Nat)
    (C0 : Hide (∀ W : World, T W → Calls Tryd.prog 14 #[.int .i64 16, .bool true, .bool false, vecV (a0, a1), vecV (b0, b1)] W fun e W' => e = .returned (vecE ((l0, l1), 0)) ∧ Below W.heap.size W W'))
    (C1 : Hide (∀ W : World, T W → Calls Tryd.prog 14 #[.int .i64 16, .bool true, .bool true, vecV (a0, a1), vecV (b0, b1)] W fun e W' => e = .returned (vecE ((h0, h1), 0)) ∧ Below W.heap.size W W'))
    (C2 : Hide (∀ W : World, T W → Calls Tryd.prog 15 #[vecV (a0, a1), vecV (b0, b1)] W fun e W' => e = .returned (vecE ((d0, d1), 0)) ∧ Below W.heap.size W W'))
    (CX0 : Hide (∀ W : World, T W → Calls Tryd.prog 16 #[vecV (l0, l1), .int .i64 32, .int .i64 0] W fun e W' => e = .returned (.tuple #[.int .u64 (x0 : Int), .int .i64 0]) ∧ Below W.heap.size W W'))
    (CY0 : Hide (∀ W : World, T W → Calls Tryd.prog 16 #[vecV (l0, l1), .int .i64 32, .int .i64 1] W fun e W' => e = .returned (.tuple #[.int .u64 (y0 : Int), .int .i64 0]) ∧ Below W.heap.size W W'))
    (CT0 : Hide (∀ W : World, T W → Calls Tryd.prog 17 #[.int .u8 1, .int .i64 32, .int .u64 (x0 : Int), .int .u64 (y0 : Int)] W fun e W' => e = .returned (.tuple #[.int .u64 (z0 : Int), .int .i64 0]) ∧ Below W.heap.size W W'))
    (CD0 : Hide (∀ W : World, T W → Calls Tryd.prog 16 #[vecV (d0, d1), .int .i64 32, .int .i64 0] W fun e W' => e = .returned (.tuple #[.int .u64 (z0 : Int), .int .i64 0]) ∧ Below W.heap.size W W'))
    (CX1 : Hide (∀ W : World, T W → Calls Tryd.prog 16 #[vecV (l0, l1), .int .i64 32, .int .i64 2] W fun e W' => e = .returned (.tuple #[.int .u64 (x1 : Int), .int .i64 0]) ∧ Below W.heap.size W W'))
    (CY1 : Hide (∀ W : World, T W → Calls Tryd.prog 16 #[vecV (l0, l1), .int .i64 32, .int .i64 3] W fun e W' => e = .returned (.tuple #[.int .u64 (y1 : Int), .int .i64 0]) ∧ Below W.heap.size W W'))
    (CT1 : Hide (∀ W : World, T W → Calls Tryd.prog 17 #[.int .u8 1, .int .i64 32, .int .u64 (x1 : Int), .int .u64 (y1 : Int)] W fun e W' => e = .returned (.tuple #[.int .u64 (z1 : Int), .int .i64 0]) ∧ Below W.heap.size W W'))
    (CD1 : Hide (∀ W : World, T W → Calls Tryd.prog 16 #[vecV (d0, d1), .int .i64 32, .int .i64 1] W fun e W' => e = .returned (.tuple #[.int .u64 (z1 : Int), .int .i64 0]) ∧ Below W.heap.size W W'))
    (CX2 : Hide (∀ W : World, T W → Calls Tryd.prog 16 #[vecV (h0, h1), .int .i64 32, .int .i64 0] W fun e W' => e = .returned (.tuple #[.int .u64 (x2 : Int), .int .i64 0]) ∧ Below W.heap.size W W'))
    (CY2 : Hide (∀ W : World, T W → Calls Tryd.prog 16 #[vecV (h0, h1), .int .i64 32, .int .i64 1] W fun e W' => e = .returned (.tuple #[.int .u64 (y2 : Int), .int .i64 0]) ∧ Below W.heap.size W W'))
    (CT2 : Hide (∀ W : World, T W → Calls Tryd.prog 17 #[.int .u8 1, .int .i64 32, .int .u64 (x2 : Int), .int .u64 (y2 : Int)] W fun e W' => e = .returned (.tuple #[.int .u64 (z2 : Int), .int .i64 0]) ∧ Below W.heap.size W W'))
    (CD2 : Hide (∀ W : World, T W → Calls Tryd.prog 16 #[vecV (d0, d1), .int .i64 32, .int .i64 2] W fun e W' => e = .returned (.tuple #[.int .u64 (z2 : Int), .int .i64 0]) ∧ Below W.heap.size W W'))
    (CX3 : Hide (∀ W : World, T W → Calls Tryd.prog 16 #[vecV (h0, h1), .int .i64 32, .int .i64 2] W fun e W' => e = .returned (.tuple #[.int .u64 (x3 : Int), .int .i64 0]) ∧ Below W.heap.size W W'))
    (CY3 : Hide (∀ W : World, T W → Calls Tryd.prog 16 #[vecV (h0, h1), .int .i64 32, .int .i64 3] W fun e W' => e = .returned (.tuple #[.int .u64 (y3 : Int), .int .i64 0]) ∧ Below W.heap.size W W'))
    (CT3 : Hide (∀ W : World, T W → Calls Tryd.prog 17 #[.int .u8 1, .int .i64 32, .int .u64 (x3 : Int), .int .u64 (y3 : Int)] W fun e W' => e = .returned (.tuple #[.int .u64 (z3 : Int), .int .i64 0]) ∧ Below W.heap.size W W'))
    (CD3 : Hide (∀ W : World, T W → Calls Tryd.prog 16 #[vecV (d0, d1), .int .i64 32, .int .i64 3] W fun e W' => e = .returned (.tuple #[.int .u64 (z3 : Int), .int .i64 0]) ∧ Below W.heap.size W W'))
    (CW : Hide (∀ W : World, T W → Calls Tryd.prog 9 #[] W fun e W' => e = .returned (.bool true) ∧ Below W.heap.size W W'))
    (W : World) (HT : Hide (T W)) :
    Calls Tryd.prog 5 #[vecV (a0, a1), vecV (b0, b1)] W fun e W' => e = .returned (.bool true) ∧ Below W.heap.size W W' := by
  obtain ⟨wa, hwa⟩ : ∃ wa, ((W.alloc (.cells #[.int .u64 (a0 : Int), .int .u64 (a1 : Int)] 24)).alloc (.cells #[.int .u64 (b0 : Int), .int .u64 (b1 : Int)] 24)) = wa := ⟨_, rfl⟩
  have Fa : Hide (VBlk wa (W.heap.size) (a0, a1)) := hide (by rw [← hwa]; exact alloc_past (alloc_at rfl))
  have Fb : Hide (VBlk wa (W.heap.size + 1) (b0, b1)) := hide (by rw [← hwa]; exact alloc_at (by simp))
  have B : Hide (Below W.heap.size W wa) := hide (by rw [← hwa]; exact ((Below.refl _ _).alloc (Nat.le_refl _) _).alloc (by simp) _)
  have HU := hide hwa
  clear hwa
  unfold vecE at C0 C1 C2
  unfold vecV at C0 C1 C2 CX0 CY0 CD0 CX1 CY1 CD1 CX2 CY2 CD2 CX3 CY3 CD3 ⊢
  simp only at C0 C1 C2 CX0 CY0 CD0 CX1 CY1 CD1 CX2 CY2 CD2 CX3 CY3 CD3 ⊢
  go_enter Tryd.func5, Tryd.ntmps5
  go_wp2_with fail
  rw [HU.out]
  refine (C0.out _ (TL.out _ _ HT.out B.out)).mono ?_
  rintro e w0 ⟨rfl, hb⟩
  obtain ⟨u0, hu⟩ : ∃ u, w0.alloc (.cells #[.int .u64 (l0 : Int), .int .u64 (l1 : Int)] 24) = u := ⟨_, rfl⟩
  have gFa0 := (Fa.out.later hb Fa.out.lt).c0
  have gFa1 := (Fa.out.later hb Fa.out.lt).c1
  have lFa := (Fa.out.later hb Fa.out.lt).lt
  have gFb0 := (Fb.out.later hb Fb.out.lt).c0
  have gFb1 := (Fb.out.later hb Fb.out.lt).c1
  have lFb := (Fb.out.later hb Fb.out.lt).lt
  simp only at gFa0 gFa1 gFb0 gFb1
  replace Fa := hide (show VBlk u0 _ _ by rw [← hu]; exact alloc_past (Fa.out.later hb Fa.out.lt))
  replace Fb := hide (show VBlk u0 _ _ by rw [← hu]; exact alloc_past (Fb.out.later hb Fb.out.lt))
  have X0 : Hide (VBlk u0 w0.heap.size (l0, l1)) := hide (by rw [← hu]; exact alloc_at rfl)
  replace B := hide (show Below W.heap.size W u0 by rw [← hu]; exact (B.out.trans (hb.mono B.out.size)).alloc (Nat.le_trans B.out.size hb.size) _)
  replace HU := hide hu
  clear hb hu
  go_wp2_with fail
  rw [HU.out]
  clear lFa lFb gFa0 gFa1 gFb0 gFb1
  refine (C1.out _ (TL.out _ _ HT.out B.out)).mono ?_
  rintro e w1 ⟨rfl, hb⟩
  obtain ⟨u1, hu⟩ : ∃ u, w1.alloc (.cells #[.int .u64 (h0 : Int), .int .u64 (h1 : Int)] 24) = u := ⟨_, rfl⟩
  have gFa0 := (Fa.out.later hb Fa.out.lt).c0
  have gFa1 := (Fa.out.later hb Fa.out.lt).c1
  have lFa := (Fa.out.later hb Fa.out.lt).lt
  have gFb0 := (Fb.out.later hb Fb.out.lt).c0
  have gFb1 := (Fb.out.later hb Fb.out.lt).c1
  have lFb := (Fb.out.later hb Fb.out.lt).lt
  simp only at gFa0 gFa1 gFb0 gFb1
  replace Fa := hide (show VBlk u1 _ _ by rw [← hu]; exact alloc_past (Fa.out.later hb Fa.out.lt))
  replace Fb := hide (show VBlk u1 _ _ by rw [← hu]; exact alloc_past (Fb.out.later hb Fb.out.lt))
  replace X0 := hide (show VBlk u1 _ _ by rw [← hu]; exact alloc_past (X0.out.later hb X0.out.lt))
  have X1 : Hide (VBlk u1 w1.heap.size (h0, h1)) := hide (by rw [← hu]; exact alloc_at rfl)
  replace B := hide (show Below W.heap.size W u1 by rw [← hu]; exact (B.out.trans (hb.mono B.out.size)).alloc (Nat.le_trans B.out.size hb.size) _)
  replace HU := hide hu
  clear hb hu
  go_wp2_with fail
  rw [HU.out]
  clear lFa lFb gFa0 gFa1 gFb0 gFb1
  refine (C2.out _ (TL.out _ _ HT.out B.out)).mono ?_
  rintro e w2 ⟨rfl, hb⟩
  obtain ⟨u2, hu⟩ : ∃ u, w2.alloc (.cells #[.int .u64 (d0 : Int), .int .u64 (d1 : Int)] 24) = u := ⟨_, rfl⟩
  replace Fa := hide (show VBlk u2 _ _ by rw [← hu]; exact alloc_past (Fa.out.later hb Fa.out.lt))
  replace Fb := hide (show VBlk u2 _ _ by rw [← hu]; exact alloc_past (Fb.out.later hb Fb.out.lt))
  replace X0 := hide (show VBlk u2 _ _ by rw [← hu]; exact alloc_past (X0.out.later hb X0.out.lt))
  replace X1 := hide (show VBlk u2 _ _ by rw [← hu]; exact alloc_past (X1.out.later hb X1.out.lt))
  have X2 : Hide (VBlk u2 w2.heap.size (d0, d1)) := hide (by rw [← hu]; exact alloc_at rfl)
  replace B := hide (show Below W.heap.size W u2 by rw [← hu]; exact (B.out.trans (hb.mono B.out.size)).alloc (Nat.le_trans B.out.size hb.size) _)
  replace HU := hide hu
  clear hb hu
  go_wp2_with fail
  rw [HU.out]
  have S0 : Hide (DotAt W w0.heap.size w1.heap.size w2.heap.size (l0, l1) (h0, h1) (d0, d1) u2) := hide ⟨X0.out, X1.out, X2.out, B.out⟩
  clear X0 X1 X2 Fa Fb B HU C0 C1 C2
  go_loopw [11] (fun x wr => ∃ k : Nat, x = .int .i64 (k : Int) ∧ k ≤ 4 ∧ DotAt W w0.heap.size w1.heap.size w2.heap.size (l0, l1) (h0, h1) (d0, d1) wr) (fun x _ => 4 - (intOf x).toNat)
  case atStart => exact ⟨0, rfl, by omega, S0.out⟩
  case round =>
    obtain ⟨k, rfl, hk, hr⟩ := hrel
    obtain ⟨a1, a2, a3, a4⟩ := hr
    have X0 := hide a1
    have X1 := hide a2
    have X2 := hide a3
    have B := hide a4
    clear a1 a2 a3 a4 S0
    rcases (show k = 0 ∨ k = 1 ∨ k = 2 ∨ k = 3 ∨ k = 4 by omega) with rfl | rfl | rfl | rfl | rfl
    · have g0 := X0.out.c0
      have g1 := X0.out.c1
      have l0' := X0.out.lt
      simp only at g0 g1
      obtain ⟨u, hu⟩ : ∃ u, wr.alloc (.cells #[.int .u64 (l0 : Int), .int .u64 (l1 : Int)] 24) = u := ⟨_, rfl⟩
      have HU := hide hu
      have Fr : Hide (VBlk u wr.heap.size (l0, l1)) := hide (by rw [← hu]; exact alloc_at rfl)
      clear hu
      go_wp2_with fail
      rw [HU.out]
      clear g0 g1 l0'
      replace X0 := hide (show VBlk u _ _ by rw [← HU.out]; exact alloc_past X0.out)
      replace X1 := hide (show VBlk u _ _ by rw [← HU.out]; exact alloc_past X1.out)
      replace X2 := hide (show VBlk u _ _ by rw [← HU.out]; exact alloc_past X2.out)
      replace B := hide (show Below W.heap.size W u by rw [← HU.out]; exact B.out.alloc B.out.size _)
      clear HU
      refine (CX0.out _ (TL.out _ _ HT.out B.out)).mono ?_
      rintro e v0 ⟨rfl, hb⟩
      replace X0 := hide (X0.out.later hb X0.out.lt)
      replace X1 := hide (X1.out.later hb X1.out.lt)
      replace X2 := hide (X2.out.later hb X2.out.lt)
      replace Fr := hide (Fr.out.later hb Fr.out.lt)
      replace B := hide (B.out.trans (hb.mono B.out.size))
      clear hb
      have g0 := Fr.out.c0
      have g1 := Fr.out.c1
      simp only at g0 g1
      go_wp2_with fail
      clear g0 g1
      refine (CY0.out _ (TL.out _ _ HT.out B.out)).mono ?_
      rintro e v1 ⟨rfl, hb⟩
      replace X0 := hide (X0.out.later hb X0.out.lt)
      replace X1 := hide (X1.out.later hb X1.out.lt)
      replace X2 := hide (X2.out.later hb X2.out.lt)
      replace Fr := hide (Fr.out.later hb Fr.out.lt)
      replace B := hide (B.out.trans (hb.mono B.out.size))
      clear hb
      go_wp2_with fail
      refine (CT0.out _ (TL.out _ _ HT.out B.out)).mono ?_
      rintro e v2 ⟨rfl, hb⟩
      replace X0 := hide (X0.out.later hb X0.out.lt)
      replace X1 := hide (X1.out.later hb X1.out.lt)
      replace X2 := hide (X2.out.later hb X2.out.lt)
      replace Fr := hide (Fr.out.later hb Fr.out.lt)
      replace B := hide (B.out.trans (hb.mono B.out.size))
      clear hb
      have g0 := X2.out.c0
      have g1 := X2.out.c1
      simp only at g0 g1
      go_wp2_with fail
      clear g0 g1
      refine (CD0.out _ (TL.out _ _ HT.out B.out)).mono ?_
      rintro e v3 ⟨rfl, hb⟩
      replace X0 := hide (X0.out.later hb X0.out.lt)
      replace X1 := hide (X1.out.later hb X1.out.lt)
      replace X2 := hide (X2.out.later hb X2.out.lt)
      replace Fr := hide (Fr.out.later hb Fr.out.lt)
      replace B := hide (B.out.trans (hb.mono B.out.size))
      clear hb
      go_wp2
      go_roundw
      case rel => exact ⟨1, by go_num, by omega, X0.out, X1.out, X2.out, B.out⟩
      case measure => simp [intOf]
    · have g0 := X0.out.c0
      have g1 := X0.out.c1
      have l0' := X0.out.lt
      simp only at g0 g1
      obtain ⟨u, hu⟩ : ∃ u, wr.alloc (.cells #[.int .u64 (l0 : Int), .int .u64 (l1 : Int)] 24) = u := ⟨_, rfl⟩
      have HU := hide hu
      have Fr : Hide (VBlk u wr.heap.size (l0, l1)) := hide (by rw [← hu]; exact alloc_at rfl)
      clear hu
      go_wp2_with fail
      rw [HU.out]
      clear g0 g1 l0'
      replace X0 := hide (show VBlk u _ _ by rw [← HU.out]; exact alloc_past X0.out)
      replace X1 := hide (show VBlk u _ _ by rw [← HU.out]; exact alloc_past X1.out)
      replace X2 := hide (show VBlk u _ _ by rw [← HU.out]; exact alloc_past X2.out)
      replace B := hide (show Below W.heap.size W u by rw [← HU.out]; exact B.out.alloc B.out.size _)
      clear HU
      refine (CX1.out _ (TL.out _ _ HT.out B.out)).mono ?_
      rintro e v0 ⟨rfl, hb⟩
      replace X0 := hide (X0.out.later hb X0.out.lt)
      replace X1 := hide (X1.out.later hb X1.out.lt)
      replace X2 := hide (X2.out.later hb X2.out.lt)
      replace Fr := hide (Fr.out.later hb Fr.out.lt)
      replace B := hide (B.out.trans (hb.mono B.out.size))
      clear hb
      have g0 := Fr.out.c0
      have g1 := Fr.out.c1
      simp only at g0 g1
      go_wp2_with fail
      clear g0 g1
      refine (CY1.out _ (TL.out _ _ HT.out B.out)).mono ?_
      rintro e v1 ⟨rfl, hb⟩
      replace X0 := hide (X0.out.later hb X0.out.lt)
      replace X1 := hide (X1.out.later hb X1.out.lt)
      replace X2 := hide (X2.out.later hb X2.out.lt)
      replace Fr := hide (Fr.out.later hb Fr.out.lt)
      replace B := hide (B.out.trans (hb.mono B.out.size))
      clear hb
      go_wp2_with fail
      refine (CT1.out _ (TL.out _ _ HT.out B.out)).mono ?_
      rintro e v2 ⟨rfl, hb⟩
      replace X0 := hide (X0.out.later hb X0.out.lt)
      replace X1 := hide (X1.out.later hb X1.out.lt)
      replace X2 := hide (X2.out.later hb X2.out.lt)
      replace Fr := hide (Fr.out.later hb Fr.out.lt)
      replace B := hide (B.out.trans (hb.mono B.out.size))
      clear hb
      have g0 := X2.out.c0
      have g1 := X2.out.c1
      simp only at g0 g1
      go_wp2_with fail
      clear g0 g1
      refine (CD1.out _ (TL.out _ _ HT.out B.out)).mono ?_
      rintro e v3 ⟨rfl, hb⟩
      replace X0 := hide (X0.out.later hb X0.out.lt)
      replace X1 := hide (X1.out.later hb X1.out.lt)
      replace X2 := hide (X2.out.later hb X2.out.lt)
      replace Fr := hide (Fr.out.later hb Fr.out.lt)
      replace B := hide (B.out.trans (hb.mono B.out.size))
      clear hb
      go_wp2
      go_roundw
      case rel => exact ⟨2, by go_num, by omega, X0.out, X1.out, X2.out, B.out⟩
      case measure => simp [intOf]
    · have g0 := X0.out.c0
      have g1 := X0.out.c1
      have l0' := X0.out.lt
      have g2 := X1.out.c0
      have g3 := X1.out.c1
      have l1' := X1.out.lt
      simp only at g0 g1 g2 g3
      obtain ⟨u, hu⟩ : ∃ u, wr.alloc (.cells #[.int .u64 (h0 : Int), .int .u64 (h1 : Int)] 24) = u := ⟨_, rfl⟩
      have HU := hide hu
      have Fr : Hide (VBlk u wr.heap.size (h0, h1)) := hide (by rw [← hu]; exact alloc_at rfl)
      clear hu
      go_wp2_with fail
      rw [HU.out]
      clear g0 g1 l0' g2 g3 l1'
      replace X0 := hide (show VBlk u _ _ by rw [← HU.out]; exact alloc_past X0.out)
      replace X1 := hide (show VBlk u _ _ by rw [← HU.out]; exact alloc_past X1.out)
      replace X2 := hide (show VBlk u _ _ by rw [← HU.out]; exact alloc_past X2.out)
      replace B := hide (show Below W.heap.size W u by rw [← HU.out]; exact B.out.alloc B.out.size _)
      clear HU
      refine (CX2.out _ (TL.out _ _ HT.out B.out)).mono ?_
      rintro e v0 ⟨rfl, hb⟩
      replace X0 := hide (X0.out.later hb X0.out.lt)
      replace X1 := hide (X1.out.later hb X1.out.lt)
      replace X2 := hide (X2.out.later hb X2.out.lt)
      replace Fr := hide (Fr.out.later hb Fr.out.lt)
      replace B := hide (B.out.trans (hb.mono B.out.size))
      clear hb
      have g0 := Fr.out.c0
      have g1 := Fr.out.c1
      simp only at g0 g1
      go_wp2_with fail
      clear g0 g1
      refine (CY2.out _ (TL.out _ _ HT.out B.out)).mono ?_
      rintro e v1 ⟨rfl, hb⟩
      replace X0 := hide (X0.out.later hb X0.out.lt)
      replace X1 := hide (X1.out.later hb X1.out.lt)
      replace X2 := hide (X2.out.later hb X2.out.lt)
      replace Fr := hide (Fr.out.later hb Fr.out.lt)
      replace B := hide (B.out.trans (hb.mono B.out.size))
      clear hb
      go_wp2_with fail
      refine (CT2.out _ (TL.out _ _ HT.out B.out)).mono ?_
      rintro e v2 ⟨rfl, hb⟩
      replace X0 := hide (X0.out.later hb X0.out.lt)
      replace X1 := hide (X1.out.later hb X1.out.lt)
      replace X2 := hide (X2.out.later hb X2.out.lt)
      replace Fr := hide (Fr.out.later hb Fr.out.lt)
      replace B := hide (B.out.trans (hb.mono B.out.size))
      clear hb
      have g0 := X2.out.c0
      have g1 := X2.out.c1
      simp only at g0 g1
      go_wp2_with fail
      clear g0 g1
      refine (CD2.out _ (TL.out _ _ HT.out B.out)).mono ?_
      rintro e v3 ⟨rfl, hb⟩
      replace X0 := hide (X0.out.later hb X0.out.lt)
      replace X1 := hide (X1.out.later hb X1.out.lt)
      replace X2 := hide (X2.out.later hb X2.out.lt)
      replace Fr := hide (Fr.out.later hb Fr.out.lt)
      replace B := hide (B.out.trans (hb.mono B.out.size))
      clear hb
      go_wp2
      go_roundw
      case rel => exact ⟨3, by go_num, by omega, X0.out, X1.out, X2.out, B.out⟩
      case measure => simp [intOf]
    · have g0 := X0.out.c0
      have g1 := X0.out.c1
      have l0' := X0.out.lt
      have g2 := X1.out.c0
      have g3 := X1.out.c1
      have l1' := X1.out.lt
      simp only at g0 g1 g2 g3
      obtain ⟨u, hu⟩ : ∃ u, wr.alloc (.cells #[.int .u64 (h0 : Int), .int .u64 (h1 : Int)] 24) = u := ⟨_, rfl⟩
      have HU := hide hu
      have Fr : Hide (VBlk u wr.heap.size (h0, h1)) := hide (by rw [← hu]; exact alloc_at rfl)
      clear hu
      go_wp2_with fail
      rw [HU.out]
      clear g0 g1 l0' g2 g3 l1'
      replace X0 := hide (show VBlk u _ _ by rw [← HU.out]; exact alloc_past X0.out)
      replace X1 := hide (show VBlk u _ _ by rw [← HU.out]; exact alloc_past X1.out)
      replace X2 := hide (show VBlk u _ _ by rw [← HU.out]; exact alloc_past X2.out)
      replace B := hide (show Below W.heap.size W u by rw [← HU.out]; exact B.out.alloc B.out.size _)
      clear HU
      refine (CX3.out _ (TL.out _ _ HT.out B.out)).mono ?_
      rintro e v0 ⟨rfl, hb⟩
      replace X0 := hide (X0.out.later hb X0.out.lt)
      replace X1 := hide (X1.out.later hb X1.out.lt)
      replace X2 := hide (X2.out.later hb X2.out.lt)
      replace Fr := hide (Fr.out.later hb Fr.out.lt)
      replace B := hide (B.out.trans (hb.mono B.out.size))
      clear hb
      have g0 := Fr.out.c0
      have g1 := Fr.out.c1
      simp only at g0 g1
      go_wp2_with fail
      clear g0 g1
      refine (CY3.out _ (TL.out _ _ HT.out B.out)).mono ?_
      rintro e v1 ⟨rfl, hb⟩
      replace X0 := hide (X0.out.later hb X0.out.lt)
      replace X1 := hide (X1.out.later hb X1.out.lt)
      replace X2 := hide (X2.out.later hb X2.out.lt)
      replace Fr := hide (Fr.out.later hb Fr.out.lt)
      replace B := hide (B.out.trans (hb.mono B.out.size))
      clear hb
      go_wp2_with fail
      refine (CT3.out _ (TL.out _ _ HT.out B.out)).mono ?_
      rintro e v2 ⟨rfl, hb⟩
      replace X0 := hide (X0.out.later hb X0.out.lt)
      replace X1 := hide (X1.out.later hb X1.out.lt)
      replace X2 := hide (X2.out.later hb X2.out.lt)
      replace Fr := hide (Fr.out.later hb Fr.out.lt)
      replace B := hide (B.out.trans (hb.mono B.out.size))
      clear hb
      have g0 := X2.out.c0
      have g1 := X2.out.c1
      simp only at g0 g1
      go_wp2_with fail
      clear g0 g1
      refine (CD3.out _ (TL.out _ _ HT.out B.out)).mono ?_
      rintro e v3 ⟨rfl, hb⟩
      replace X0 := hide (X0.out.later hb X0.out.lt)
      replace X1 := hide (X1.out.later hb X1.out.lt)
      replace X2 := hide (X2.out.later hb X2.out.lt)
      replace Fr := hide (Fr.out.later hb Fr.out.lt)
      replace B := hide (B.out.trans (hb.mono B.out.size))
      clear hb
      go_wp2
      go_roundw
      case rel => exact ⟨4, by go_num, by omega, X0.out, X1.out, X2.out, B.out⟩
      case measure => simp [intOf]
    · go_wp2_with fail
      refine (CW.out _ (TL.out _ _ HT.out B.out)).mono ?_
      rintro e wz ⟨rfl, hb⟩
      replace B := hide (B.out.trans (hb.mono B.out.size))
      clear hb
      go_wp2
      go_ret
      exact ⟨rfl, B.out⟩

set_option maxHeartbeats 8000000 in
theorem vsums_8 (T : World → Prop) (TL : Hide (∀ W W' : World, T W → Below W.heap.size W W' → T W')) (n a0 a1 b0 b1 p q r0 r1 s0 s1 tot : Nat) (fs : Nat → Nat) (L : List Nat)
    (CD : Hide (∀ W : World, Calls Tryd.prog 10 #[.int .u8 (n : Int)] W fun e W' => e = .returned (.int .i64 8) ∧ W' = W))
    (C0 : Hide (∀ W : World, T W → Calls Tryd.prog 18 #[.int .u8 1, .int .i64 8, vecV (a0, a1), vecV (b0, b1)] W fun e W' => e = .returned (vecE ((p, q), 0)) ∧ Below W.heap.size W W'))
    (C1 : Hide (∀ W : World, T W → Calls Tryd.prog 18 #[.int .u8 2, .int .i64 8, vecV (p, q), vecV (b0, b1)] W fun e W' => e = .returned (vecE ((a0, a1), 0)) ∧ Below W.heap.size W W'))
    (C2 : Hide (∀ W : World, T W → Calls Tryd.prog 19 #[.int .i64 8, .bool false, vecV (a0, a1)] W fun e W' => e = .returned (vecE ((r0, r1), 0)) ∧ Below W.heap.size W W'))
    (C3 : Hide (∀ W : World, T W → Calls Tryd.prog 19 #[.int .i64 16, .bool false, vecV (r0, r1)] W fun e W' => e = .returned (vecE ((s0, s1), 0)) ∧ Below W.heap.size W W'))
    (C4 : Hide (∀ W : World, Calls Tryd.prog 20 #[vecV (s0, s1), .int .i64 32] W fun e W' => ListPost W 4 ((List.range 4).map fs) e W'))
    (C5 : Hide (∀ W : World, Calls Tryd.prog 21 #[vecV (a0, a1)] W fun e W' => e = .returned (.agg (cellsB L)) ∧ Below W.heap.size W W'))
    (hL : L.length = 16) (LB : Hide (∀ i, at0 L i < 2 ^ 8)) (S U : Nat → Nat) (HS : Hide (S 0 = 0 ∧ S 4 = tot ∧ ∀ k, k < 4 → IntKind.u64.wrap ((S k : Int) + (fs k : Int)) = (S (k + 1) : Int))) (HV : Hide (U 0 = 0 ∧ U 16 = tot ∧ ∀ k, k < 16 → IntKind.u64.wrap ((U k : Int) + (at0 L k : Int)) = (U (k + 1) : Int)))
    (CW : Hide (∀ W : World, T W → Calls Tryd.prog 9 #[] W fun e W' => e = .returned (.bool true) ∧ Below W.heap.size W W'))
    (W : World) (HT : Hide (T W)) :
    Calls Tryd.prog 6 #[.int .u8 (n : Int), vecV (a0, a1), vecV (b0, b1)] W fun e W' => e = .returned (.bool true) ∧ Below W.heap.size W W' := by
  have IX := hide (fun (k : Nat) (hk : k < 16) => index16 hL k hk)
  clear hL
  obtain ⟨wa, hwa⟩ : ∃ wa, ((W.alloc (.cells #[.int .u64 (a0 : Int), .int .u64 (a1 : Int)] 24)).alloc (.cells #[.int .u64 (b0 : Int), .int .u64 (b1 : Int)] 24)) = wa := ⟨_, rfl⟩
  have Fa : Hide (VBlk wa (W.heap.size) (a0, a1)) := hide (by rw [← hwa]; exact alloc_past (alloc_at rfl))
  have Fb : Hide (VBlk wa (W.heap.size + 1) (b0, b1)) := hide (by rw [← hwa]; exact alloc_at (by simp))
  have B : Hide (Below W.heap.size W wa) := hide (by rw [← hwa]; exact ((Below.refl _ _).alloc (Nat.le_refl _) _).alloc (by simp) _)
  have HU := hide hwa
  clear hwa
  unfold vecE at C0 C1 C2 C3
  unfold vecV at C0 C1 C2 C3 C4 C5 ⊢
  simp only at C0 C1 C2 C3 C4 C5 ⊢
  go_enter Tryd.func6, Tryd.ntmps6
  go_wp2_with ((with_reducible refine (CD.out _).mono ?_); rintro e wq ⟨rfl, hww⟩; replace hww := hww.symm; subst hww)
  rw [HU.out]
  refine (C0.out _ (TL.out _ _ HT.out B.out)).mono ?_
  rintro e w0 ⟨rfl, hb⟩
  obtain ⟨u0, hu⟩ : ∃ u, w0.alloc (.cells #[.int .u64 (p : Int), .int .u64 (q : Int)] 24) = u := ⟨_, rfl⟩
  have gFb0 := (Fb.out.later hb Fb.out.lt).c0
  have gFb1 := (Fb.out.later hb Fb.out.lt).c1
  have lFb := (Fb.out.later hb Fb.out.lt).lt
  simp only at gFb0 gFb1
  replace Fa := hide (show VBlk u0 _ _ by rw [← hu]; exact alloc_past (Fa.out.later hb Fa.out.lt))
  replace Fb := hide (show VBlk u0 _ _ by rw [← hu]; exact alloc_past (Fb.out.later hb Fb.out.lt))
  have X0 : Hide (VBlk u0 w0.heap.size (p, q)) := hide (by rw [← hu]; exact alloc_at rfl)
  replace B := hide (show Below W.heap.size W u0 by rw [← hu]; exact (B.out.trans (hb.mono B.out.size)).alloc (Nat.le_trans B.out.size hb.size) _)
  replace HU := hide hu
  clear hb hu
  go_wp2_with fail
  rw [HU.out]
  clear lFb gFb0 gFb1
  refine (C1.out _ (TL.out _ _ HT.out B.out)).mono ?_
  rintro e w1 ⟨rfl, hb⟩
  obtain ⟨u1, hu⟩ : ∃ u, w1.alloc (.cells #[.int .u64 (a0 : Int), .int .u64 (a1 : Int)] 24) = u := ⟨_, rfl⟩
  have gFa0 := (Fa.out.later hb Fa.out.lt).c0
  have gFa1 := (Fa.out.later hb Fa.out.lt).c1
  have lFa := (Fa.out.later hb Fa.out.lt).lt
  simp only at gFa0 gFa1
  replace Fa := hide (show VBlk u1 _ _ by rw [← hu]; exact alloc_past (Fa.out.later hb Fa.out.lt))
  replace Fb := hide (show VBlk u1 _ _ by rw [← hu]; exact alloc_past (Fb.out.later hb Fb.out.lt))
  replace X0 := hide (show VBlk u1 _ _ by rw [← hu]; exact alloc_past (X0.out.later hb X0.out.lt))
  have X1 : Hide (VBlk u1 w1.heap.size (a0, a1)) := hide (by rw [← hu]; exact alloc_at rfl)
  replace B := hide (show Below W.heap.size W u1 by rw [← hu]; exact (B.out.trans (hb.mono B.out.size)).alloc (Nat.le_trans B.out.size hb.size) _)
  replace HU := hide hu
  clear hb hu
  go_wp2_with fail
  rw [HU.out]
  clear lFa gFa0 gFa1
  refine (C2.out _ (TL.out _ _ HT.out B.out)).mono ?_
  rintro e w2 ⟨rfl, hb⟩
  obtain ⟨u2, hu⟩ : ∃ u, w2.alloc (.cells #[.int .u64 (r0 : Int), .int .u64 (r1 : Int)] 24) = u := ⟨_, rfl⟩
  replace Fa := hide (show VBlk u2 _ _ by rw [← hu]; exact alloc_past (Fa.out.later hb Fa.out.lt))
  replace Fb := hide (show VBlk u2 _ _ by rw [← hu]; exact alloc_past (Fb.out.later hb Fb.out.lt))
  replace X0 := hide (show VBlk u2 _ _ by rw [← hu]; exact alloc_past (X0.out.later hb X0.out.lt))
  replace X1 := hide (show VBlk u2 _ _ by rw [← hu]; exact alloc_past (X1.out.later hb X1.out.lt))
  have X2 : Hide (VBlk u2 w2.heap.size (r0, r1)) := hide (by rw [← hu]; exact alloc_at rfl)
  replace B := hide (show Below W.heap.size W u2 by rw [← hu]; exact (B.out.trans (hb.mono B.out.size)).alloc (Nat.le_trans B.out.size hb.size) _)
  replace HU := hide hu
  clear hb hu
  go_wp2_with fail
  rw [HU.out]
  refine (C3.out _ (TL.out _ _ HT.out B.out)).mono ?_
  rintro e w3 ⟨rfl, hb⟩
  obtain ⟨u3, hu⟩ : ∃ u, w3.alloc (.cells #[.int .u64 (s0 : Int), .int .u64 (s1 : Int)] 24) = u := ⟨_, rfl⟩
  replace Fa := hide (show VBlk u3 _ _ by rw [← hu]; exact alloc_past (Fa.out.later hb Fa.out.lt))
  replace Fb := hide (show VBlk u3 _ _ by rw [← hu]; exact alloc_past (Fb.out.later hb Fb.out.lt))
  replace X0 := hide (show VBlk u3 _ _ by rw [← hu]; exact alloc_past (X0.out.later hb X0.out.lt))
  replace X1 := hide (show VBlk u3 _ _ by rw [← hu]; exact alloc_past (X1.out.later hb X1.out.lt))
  replace X2 := hide (show VBlk u3 _ _ by rw [← hu]; exact alloc_past (X2.out.later hb X2.out.lt))
  have X3 : Hide (VBlk u3 w3.heap.size (s0, s1)) := hide (by rw [← hu]; exact alloc_at rfl)
  replace B := hide (show Below W.heap.size W u3 by rw [← hu]; exact (B.out.trans (hb.mono B.out.size)).alloc (Nat.le_trans B.out.size hb.size) _)
  replace HU := hide hu
  clear hb hu
  go_wp2_with fail
  rw [HU.out]
  refine (C4.out _).mono ?_
  rintro e w4 hpost
  obtain ⟨g1, cap1, hg1, rfl, hcap, hx, hb⟩ := list_x hpost
  replace Fa := hide (Fa.out.later hb Fa.out.lt)
  replace B := hide (B.out.trans (hb.mono B.out.size))
  have KX := hide hx
  have h00 := HS.out.1
  clear hx hb hpost hg1 hcap X0 X1 X2 X3 Fb C0 C1 C2 C3 C4 HU
  go_wp2_with fail
  go_loop [16, 62] (fun m x => ∃ k : Nat, x = .int .i64 (k : Int) ∧ k ≤ 4 ∧ m = .int .u64 (S k : Int)) (fun _ x => 4 - (intOf x).toNat)
  case atStart => exact ⟨0, rfl, by omega, by rw [h00]; rfl⟩
  case round =>
    clear h00
    obtain ⟨k, rfl, hk, rfl⟩ := hrel
    by_cases c0 : k < 4
    · have c1 : (k : Int) < 4 := by omega
      have hA : w4.cell? ⟨g1, k, none⟩ = some (.int .u64 (fs k : Int)) := by
        have := KX.out.cell k c0
        rwa [show at0 ((List.range 4).map fs) k = fs k by simp [at0, List.getElem?_range c0]] at this
      have ES := HS.out.2.2 k c0
      have HC := hide c0
      obtain ⟨m2, hm2⟩ : ∃ m2, S (k + 1) = m2 := ⟨_, rfl⟩
      have HM2 := hide hm2
      rw [hm2] at ES
      clear hm2 HS c0 HV IX
      generalize fs k = xa at *
      generalize S k = mk at *
      go_wp2
      go_round
      case rel => exact ⟨k + 1, by go_num, HC.out, by rw [HM2.out]⟩
      case measure => have := HC.out; simp [intOf]; omega
    · obtain rfl : k = 4 := by omega
      rw [HS.out.2.1]
      have ga0 := Fa.out.c0
      have ga1 := Fa.out.c1
      simp only at ga0 ga1
      have h01 := HV.out.1
      clear HS c0 KX
      go_wp2_with fail
      refine (C5.out _).mono ?_
      rintro e w5 ⟨rfl, hb⟩
      replace B := hide (B.out.trans (hb.mono B.out.size))
      clear hb ga0 ga1
      go_wp2_with fail
      go_loop [17, 72] (fun m x => ∃ k : Nat, x = .int .i64 (k : Int) ∧ k ≤ 16 ∧ m = .int .u64 (U k : Int)) (fun _ x => 16 - (intOf x).toNat)
      case atStart => exact ⟨0, rfl, by omega, by rw [h01]; rfl⟩
      case round =>
        clear h01
        obtain ⟨k, rfl, hk, rfl⟩ := hrel
        by_cases c0 : k < 16
        · have c1 : (k : Int) < 16 := by omega
          have IK := IX.out k c0
          have ES := HV.out.2.2 k c0
          have hbk := LB.out k
          have wz : IntKind.u64.wrap (at0 L k : Int) = (at0 L k : Int) := by rw [IntKind.wrap_u64]; omega
          have HC := hide c0
          obtain ⟨m2, hm2⟩ : ∃ m2, U (k + 1) = m2 := ⟨_, rfl⟩
          have HM2 := hide hm2
          rw [hm2] at ES
          clear hm2 HV c0 IX LB hbk
          generalize at0 L k = xa at *
          generalize U k = mk at *
          go_wp2
          go_round
          case rel => exact ⟨k + 1, by go_num, HC.out, by rw [HM2.out]⟩
          case measure => have := HC.out; simp [intOf]; omega
        · obtain rfl : k = 16 := by omega
          rw [HV.out.2.1]
          clear HV c0 IX
          go_wp2_with fail
          refine (CW.out _ (TL.out _ _ HT.out B.out)).mono ?_
          rintro e wz ⟨rfl, hb⟩
          replace B := hide (B.out.trans (hb.mono B.out.size))
          clear hb
          go_wp2
          go_ret
          exact ⟨rfl, B.out⟩

set_option maxHeartbeats 8000000 in
theorem vsums_16 (T : World → Prop) (TL : Hide (∀ W W' : World, T W → Below W.heap.size W W' → T W')) (n a0 a1 b0 b1 p q r0 r1 s0 s1 tot : Nat) (fs : Nat → Nat) (L : List Nat)
    (CD : Hide (∀ W : World, Calls Tryd.prog 10 #[.int .u8 (n : Int)] W fun e W' => e = .returned (.int .i64 16) ∧ W' = W))
    (C0 : Hide (∀ W : World, T W → Calls Tryd.prog 18 #[.int .u8 1, .int .i64 16, vecV (a0, a1), vecV (b0, b1)] W fun e W' => e = .returned (vecE ((p, q), 0)) ∧ Below W.heap.size W W'))
    (C1 : Hide (∀ W : World, T W → Calls Tryd.prog 18 #[.int .u8 2, .int .i64 16, vecV (p, q), vecV (b0, b1)] W fun e W' => e = .returned (vecE ((a0, a1), 0)) ∧ Below W.heap.size W W'))
    (C2 : Hide (∀ W : World, T W → Calls Tryd.prog 19 #[.int .i64 8, .bool false, vecV (a0, a1)] W fun e W' => e = .returned (vecE ((r0, r1), 0)) ∧ Below W.heap.size W W'))
    (C3 : Hide (∀ W : World, T W → Calls Tryd.prog 19 #[.int .i64 16, .bool false, vecV (r0, r1)] W fun e W' => e = .returned (vecE ((s0, s1), 0)) ∧ Below W.heap.size W W'))
    (C4 : Hide (∀ W : World, Calls Tryd.prog 20 #[vecV (s0, s1), .int .i64 32] W fun e W' => ListPost W 4 ((List.range 4).map fs) e W'))
    (C5 : Hide (∀ W : World, Calls Tryd.prog 21 #[vecV (a0, a1)] W fun e W' => e = .returned (.agg (cellsB L)) ∧ Below W.heap.size W W'))
    (hL : L.length = 16) (LB : Hide (∀ i, at0 L i < 2 ^ 8)) (S U : Nat → Nat) (HS : Hide (S 0 = 0 ∧ S 4 = tot ∧ ∀ k, k < 4 → IntKind.u64.wrap ((S k : Int) + (fs k : Int)) = (S (k + 1) : Int))) (HV : Hide (U 0 = 0 ∧ U 16 = tot ∧ ∀ k, k < 16 → IntKind.u64.wrap ((U k : Int) + (at0 L k : Int)) = (U (k + 1) : Int)))
    (CW : Hide (∀ W : World, T W → Calls Tryd.prog 9 #[] W fun e W' => e = .returned (.bool true) ∧ Below W.heap.size W W'))
    (W : World) (HT : Hide (T W)) :
    Calls Tryd.prog 6 #[.int .u8 (n : Int), vecV (a0, a1), vecV (b0, b1)] W fun e W' => e = .returned (.bool true) ∧ Below W.heap.size W W' := by
  have IX := hide (fun (k : Nat) (hk : k < 16) => index16 hL k hk)
  clear hL
  obtain ⟨wa, hwa⟩ : ∃ wa, ((W.alloc (.cells #[.int .u64 (a0 : Int), .int .u64 (a1 : Int)] 24)).alloc (.cells #[.int .u64 (b0 : Int), .int .u64 (b1 : Int)] 24)) = wa := ⟨_, rfl⟩
  have Fa : Hide (VBlk wa (W.heap.size) (a0, a1)) := hide (by rw [← hwa]; exact alloc_past (alloc_at rfl))
  have Fb : Hide (VBlk wa (W.heap.size + 1) (b0, b1)) := hide (by rw [← hwa]; exact alloc_at (by simp))
  have B : Hide (Below W.heap.size W wa) := hide (by rw [← hwa]; exact ((Below.refl _ _).alloc (Nat.le_refl _) _).alloc (by simp) _)
  have HU := hide hwa
  clear hwa
  unfold vecE at C0 C1 C2 C3
  unfold vecV at C0 C1 C2 C3 C4 C5 ⊢
  simp only at C0 C1 C2 C3 C4 C5 ⊢
  go_enter Tryd.func6, Tryd.ntmps6
  go_wp2_with ((with_reducible refine (CD.out _).mono ?_); rintro e wq ⟨rfl, hww⟩; replace hww := hww.symm; subst hww)
  rw [HU.out]
  refine (C0.out _ (TL.out _ _ HT.out B.out)).mono ?_
  rintro e w0 ⟨rfl, hb⟩
  obtain ⟨u0, hu⟩ : ∃ u, w0.alloc (.cells #[.int .u64 (p : Int), .int .u64 (q : Int)] 24) = u := ⟨_, rfl⟩
  have gFb0 := (Fb.out.later hb Fb.out.lt).c0
  have gFb1 := (Fb.out.later hb Fb.out.lt).c1
  have lFb := (Fb.out.later hb Fb.out.lt).lt
  simp only at gFb0 gFb1
  replace Fa := hide (show VBlk u0 _ _ by rw [← hu]; exact alloc_past (Fa.out.later hb Fa.out.lt))
  replace Fb := hide (show VBlk u0 _ _ by rw [← hu]; exact alloc_past (Fb.out.later hb Fb.out.lt))
  have X0 : Hide (VBlk u0 w0.heap.size (p, q)) := hide (by rw [← hu]; exact alloc_at rfl)
  replace B := hide (show Below W.heap.size W u0 by rw [← hu]; exact (B.out.trans (hb.mono B.out.size)).alloc (Nat.le_trans B.out.size hb.size) _)
  replace HU := hide hu
  clear hb hu
  go_wp2_with fail
  rw [HU.out]
  clear lFb gFb0 gFb1
  refine (C1.out _ (TL.out _ _ HT.out B.out)).mono ?_
  rintro e w1 ⟨rfl, hb⟩
  obtain ⟨u1, hu⟩ : ∃ u, w1.alloc (.cells #[.int .u64 (a0 : Int), .int .u64 (a1 : Int)] 24) = u := ⟨_, rfl⟩
  have gFa0 := (Fa.out.later hb Fa.out.lt).c0
  have gFa1 := (Fa.out.later hb Fa.out.lt).c1
  have lFa := (Fa.out.later hb Fa.out.lt).lt
  simp only at gFa0 gFa1
  replace Fa := hide (show VBlk u1 _ _ by rw [← hu]; exact alloc_past (Fa.out.later hb Fa.out.lt))
  replace Fb := hide (show VBlk u1 _ _ by rw [← hu]; exact alloc_past (Fb.out.later hb Fb.out.lt))
  replace X0 := hide (show VBlk u1 _ _ by rw [← hu]; exact alloc_past (X0.out.later hb X0.out.lt))
  have X1 : Hide (VBlk u1 w1.heap.size (a0, a1)) := hide (by rw [← hu]; exact alloc_at rfl)
  replace B := hide (show Below W.heap.size W u1 by rw [← hu]; exact (B.out.trans (hb.mono B.out.size)).alloc (Nat.le_trans B.out.size hb.size) _)
  replace HU := hide hu
  clear hb hu
  go_wp2_with fail
  rw [HU.out]
  clear lFa gFa0 gFa1
  refine (C2.out _ (TL.out _ _ HT.out B.out)).mono ?_
  rintro e w2 ⟨rfl, hb⟩
  obtain ⟨u2, hu⟩ : ∃ u, w2.alloc (.cells #[.int .u64 (r0 : Int), .int .u64 (r1 : Int)] 24) = u := ⟨_, rfl⟩
  replace Fa := hide (show VBlk u2 _ _ by rw [← hu]; exact alloc_past (Fa.out.later hb Fa.out.lt))
  replace Fb := hide (show VBlk u2 _ _ by rw [← hu]; exact alloc_past (Fb.out.later hb Fb.out.lt))
  replace X0 := hide (show VBlk u2 _ _ by rw [← hu]; exact alloc_past (X0.out.later hb X0.out.lt))
  replace X1 := hide (show VBlk u2 _ _ by rw [← hu]; exact alloc_past (X1.out.later hb X1.out.lt))
  have X2 : Hide (VBlk u2 w2.heap.size (r0, r1)) := hide (by rw [← hu]; exact alloc_at rfl)
  replace B := hide (show Below W.heap.size W u2 by rw [← hu]; exact (B.out.trans (hb.mono B.out.size)).alloc (Nat.le_trans B.out.size hb.size) _)
  replace HU := hide hu
  clear hb hu
  go_wp2_with fail
  rw [HU.out]
  refine (C3.out _ (TL.out _ _ HT.out B.out)).mono ?_
  rintro e w3 ⟨rfl, hb⟩
  obtain ⟨u3, hu⟩ : ∃ u, w3.alloc (.cells #[.int .u64 (s0 : Int), .int .u64 (s1 : Int)] 24) = u := ⟨_, rfl⟩
  replace Fa := hide (show VBlk u3 _ _ by rw [← hu]; exact alloc_past (Fa.out.later hb Fa.out.lt))
  replace Fb := hide (show VBlk u3 _ _ by rw [← hu]; exact alloc_past (Fb.out.later hb Fb.out.lt))
  replace X0 := hide (show VBlk u3 _ _ by rw [← hu]; exact alloc_past (X0.out.later hb X0.out.lt))
  replace X1 := hide (show VBlk u3 _ _ by rw [← hu]; exact alloc_past (X1.out.later hb X1.out.lt))
  replace X2 := hide (show VBlk u3 _ _ by rw [← hu]; exact alloc_past (X2.out.later hb X2.out.lt))
  have X3 : Hide (VBlk u3 w3.heap.size (s0, s1)) := hide (by rw [← hu]; exact alloc_at rfl)
  replace B := hide (show Below W.heap.size W u3 by rw [← hu]; exact (B.out.trans (hb.mono B.out.size)).alloc (Nat.le_trans B.out.size hb.size) _)
  replace HU := hide hu
  clear hb hu
  go_wp2_with fail
  rw [HU.out]
  refine (C4.out _).mono ?_
  rintro e w4 hpost
  obtain ⟨g1, cap1, hg1, rfl, hcap, hx, hb⟩ := list_x hpost
  replace Fa := hide (Fa.out.later hb Fa.out.lt)
  replace B := hide (B.out.trans (hb.mono B.out.size))
  have KX := hide hx
  have h00 := HS.out.1
  clear hx hb hpost hg1 hcap X0 X1 X2 X3 Fb C0 C1 C2 C3 C4 HU
  go_wp2_with fail
  go_loop [16, 62] (fun m x => ∃ k : Nat, x = .int .i64 (k : Int) ∧ k ≤ 4 ∧ m = .int .u64 (S k : Int)) (fun _ x => 4 - (intOf x).toNat)
  case atStart => exact ⟨0, rfl, by omega, by rw [h00]; rfl⟩
  case round =>
    clear h00
    obtain ⟨k, rfl, hk, rfl⟩ := hrel
    by_cases c0 : k < 4
    · have c1 : (k : Int) < 4 := by omega
      have hA : w4.cell? ⟨g1, k, none⟩ = some (.int .u64 (fs k : Int)) := by
        have := KX.out.cell k c0
        rwa [show at0 ((List.range 4).map fs) k = fs k by simp [at0, List.getElem?_range c0]] at this
      have ES := HS.out.2.2 k c0
      have HC := hide c0
      obtain ⟨m2, hm2⟩ : ∃ m2, S (k + 1) = m2 := ⟨_, rfl⟩
      have HM2 := hide hm2
      rw [hm2] at ES
      clear hm2 HS c0 HV IX
      generalize fs k = xa at *
      generalize S k = mk at *
      go_wp2
      go_round
      case rel => exact ⟨k + 1, by go_num, HC.out, by rw [HM2.out]⟩
      case measure => have := HC.out; simp [intOf]; omega
    · obtain rfl : k = 4 := by omega
      rw [HS.out.2.1]
      have ga0 := Fa.out.c0
      have ga1 := Fa.out.c1
      simp only at ga0 ga1
      have h01 := HV.out.1
      clear HS c0 KX
      go_wp2_with fail
      refine (C5.out _).mono ?_
      rintro e w5 ⟨rfl, hb⟩
      replace B := hide (B.out.trans (hb.mono B.out.size))
      clear hb ga0 ga1
      go_wp2_with fail
      go_loop [17, 72] (fun m x => ∃ k : Nat, x = .int .i64 (k : Int) ∧ k ≤ 16 ∧ m = .int .u64 (U k : Int)) (fun _ x => 16 - (intOf x).toNat)
      case atStart => exact ⟨0, rfl, by omega, by rw [h01]; rfl⟩
      case round =>
        clear h01
        obtain ⟨k, rfl, hk, rfl⟩ := hrel
        by_cases c0 : k < 16
        · have c1 : (k : Int) < 16 := by omega
          have IK := IX.out k c0
          have ES := HV.out.2.2 k c0
          have hbk := LB.out k
          have wz : IntKind.u64.wrap (at0 L k : Int) = (at0 L k : Int) := by rw [IntKind.wrap_u64]; omega
          have HC := hide c0
          obtain ⟨m2, hm2⟩ : ∃ m2, U (k + 1) = m2 := ⟨_, rfl⟩
          have HM2 := hide hm2
          rw [hm2] at ES
          clear hm2 HV c0 IX LB hbk
          generalize at0 L k = xa at *
          generalize U k = mk at *
          go_wp2
          go_round
          case rel => exact ⟨k + 1, by go_num, HC.out, by rw [HM2.out]⟩
          case measure => have := HC.out; simp [intOf]; omega
        · obtain rfl : k = 16 := by omega
          rw [HV.out.2.1]
          clear HV c0 IX
          go_wp2_with fail
          refine (CW.out _ (TL.out _ _ HT.out B.out)).mono ?_
          rintro e wz ⟨rfl, hb⟩
          replace B := hide (B.out.trans (hb.mono B.out.size))
          clear hb
          go_wp2
          go_ret
          exact ⟨rfl, B.out⟩

set_option maxHeartbeats 8000000 in
theorem vsums_32 (T : World → Prop) (TL : Hide (∀ W W' : World, T W → Below W.heap.size W W' → T W')) (n a0 a1 b0 b1 p q r0 r1 s0 s1 tot : Nat) (fs : Nat → Nat) (L : List Nat)
    (CD : Hide (∀ W : World, Calls Tryd.prog 10 #[.int .u8 (n : Int)] W fun e W' => e = .returned (.int .i64 32) ∧ W' = W))
    (C0 : Hide (∀ W : World, T W → Calls Tryd.prog 18 #[.int .u8 1, .int .i64 32, vecV (a0, a1), vecV (b0, b1)] W fun e W' => e = .returned (vecE ((p, q), 0)) ∧ Below W.heap.size W W'))
    (C1 : Hide (∀ W : World, T W → Calls Tryd.prog 18 #[.int .u8 2, .int .i64 32, vecV (p, q), vecV (b0, b1)] W fun e W' => e = .returned (vecE ((a0, a1), 0)) ∧ Below W.heap.size W W'))
    (C2 : Hide (∀ W : World, T W → Calls Tryd.prog 19 #[.int .i64 8, .bool false, vecV (a0, a1)] W fun e W' => e = .returned (vecE ((r0, r1), 0)) ∧ Below W.heap.size W W'))
    (C3 : Hide (∀ W : World, T W → Calls Tryd.prog 19 #[.int .i64 16, .bool false, vecV (r0, r1)] W fun e W' => e = .returned (vecE ((s0, s1), 0)) ∧ Below W.heap.size W W'))
    (C4 : Hide (∀ W : World, Calls Tryd.prog 20 #[vecV (s0, s1), .int .i64 32] W fun e W' => ListPost W 4 ((List.range 4).map fs) e W'))
    (C5 : Hide (∀ W : World, Calls Tryd.prog 21 #[vecV (a0, a1)] W fun e W' => e = .returned (.agg (cellsB L)) ∧ Below W.heap.size W W'))
    (hL : L.length = 16) (LB : Hide (∀ i, at0 L i < 2 ^ 8)) (S U : Nat → Nat) (HS : Hide (S 0 = 0 ∧ S 4 = tot ∧ ∀ k, k < 4 → IntKind.u64.wrap ((S k : Int) + (fs k : Int)) = (S (k + 1) : Int))) (HV : Hide (U 0 = 0 ∧ U 16 = tot ∧ ∀ k, k < 16 → IntKind.u64.wrap ((U k : Int) + (at0 L k : Int)) = (U (k + 1) : Int)))
    (CW : Hide (∀ W : World, T W → Calls Tryd.prog 9 #[] W fun e W' => e = .returned (.bool true) ∧ Below W.heap.size W W'))
    (W : World) (HT : Hide (T W)) :
    Calls Tryd.prog 6 #[.int .u8 (n : Int), vecV (a0, a1), vecV (b0, b1)] W fun e W' => e = .returned (.bool true) ∧ Below W.heap.size W W' := by
  have IX := hide (fun (k : Nat) (hk : k < 16) => index16 hL k hk)
  clear hL
  obtain ⟨wa, hwa⟩ : ∃ wa, ((W.alloc (.cells #[.int .u64 (a0 : Int), .int .u64 (a1 : Int)] 24)).alloc (.cells #[.int .u64 (b0 : Int), .int .u64 (b1 : Int)] 24)) = wa := ⟨_, rfl⟩
  have Fa : Hide (VBlk wa (W.heap.size) (a0, a1)) := hide (by rw [← hwa]; exact alloc_past (alloc_at rfl))
  have Fb : Hide (VBlk wa (W.heap.size + 1) (b0, b1)) := hide (by rw [← hwa]; exact alloc_at (by simp))
  have B : Hide (Below W.heap.size W wa) := hide (by rw [← hwa]; exact ((Below.refl _ _).alloc (Nat.le_refl _) _).alloc (by simp) _)
  have HU := hide hwa
  clear hwa
  unfold vecE at C0 C1 C2 C3
  unfold vecV at C0 C1 C2 C3 C4 C5 ⊢
  simp only at C0 C1 C2 C3 C4 C5 ⊢
  go_enter Tryd.func6, Tryd.ntmps6
  go_wp2_with ((with_reducible refine (CD.out _).mono ?_); rintro e wq ⟨rfl, hww⟩; replace hww := hww.symm; subst hww)
  rw [HU.out]
  refine (C0.out _ (TL.out _ _ HT.out B.out)).mono ?_
  rintro e w0 ⟨rfl, hb⟩
  obtain ⟨u0, hu⟩ : ∃ u, w0.alloc (.cells #[.int .u64 (p : Int), .int .u64 (q : Int)] 24) = u := ⟨_, rfl⟩
  have gFb0 := (Fb.out.later hb Fb.out.lt).c0
  have gFb1 := (Fb.out.later hb Fb.out.lt).c1
  have lFb := (Fb.out.later hb Fb.out.lt).lt
  simp only at gFb0 gFb1
  replace Fa := hide (show VBlk u0 _ _ by rw [← hu]; exact alloc_past (Fa.out.later hb Fa.out.lt))
  replace Fb := hide (show VBlk u0 _ _ by rw [← hu]; exact alloc_past (Fb.out.later hb Fb.out.lt))
  have X0 : Hide (VBlk u0 w0.heap.size (p, q)) := hide (by rw [← hu]; exact alloc_at rfl)
  replace B := hide (show Below W.heap.size W u0 by rw [← hu]; exact (B.out.trans (hb.mono B.out.size)).alloc (Nat.le_trans B.out.size hb.size) _)
  replace HU := hide hu
  clear hb hu
  go_wp2_with fail
  rw [HU.out]
  clear lFb gFb0 gFb1
  refine (C1.out _ (TL.out _ _ HT.out B.out)).mono ?_
  rintro e w1 ⟨rfl, hb⟩
  obtain ⟨u1, hu⟩ : ∃ u, w1.alloc (.cells #[.int .u64 (a0 : Int), .int .u64 (a1 : Int)] 24) = u := ⟨_, rfl⟩
  have gFa0 := (Fa.out.later hb Fa.out.lt).c0
  have gFa1 := (Fa.out.later hb Fa.out.lt).c1
  have lFa := (Fa.out.later hb Fa.out.lt).lt
  simp only at gFa0 gFa1
  replace Fa := hide (show VBlk u1 _ _ by rw [← hu]; exact alloc_past (Fa.out.later hb Fa.out.lt))
  replace Fb := hide (show VBlk u1 _ _ by rw [← hu]; exact alloc_past (Fb.out.later hb Fb.out.lt))
  replace X0 := hide (show VBlk u1 _ _ by rw [← hu]; exact alloc_past (X0.out.later hb X0.out.lt))
  have X1 : Hide (VBlk u1 w1.heap.size (a0, a1)) := hide (by rw [← hu]; exact alloc_at rfl)
  replace B := hide (show Below W.heap.size W u1 by rw [← hu]; exact (B.out.trans (hb.mono B.out.size)).alloc (Nat.le_trans B.out.size hb.size) _)
  replace HU := hide hu
  clear hb hu
  go_wp2_with fail
  rw [HU.out]
  clear lFa gFa0 gFa1
  refine (C2.out _ (TL.out _ _ HT.out B.out)).mono ?_
  rintro e w2 ⟨rfl, hb⟩
  obtain ⟨u2, hu⟩ : ∃ u, w2.alloc (.cells #[.int .u64 (r0 : Int), .int .u64 (r1 : Int)] 24) = u := ⟨_, rfl⟩
  replace Fa := hide (show VBlk u2 _ _ by rw [← hu]; exact alloc_past (Fa.out.later hb Fa.out.lt))
  replace Fb := hide (show VBlk u2 _ _ by rw [← hu]; exact alloc_past (Fb.out.later hb Fb.out.lt))
  replace X0 := hide (show VBlk u2 _ _ by rw [← hu]; exact alloc_past (X0.out.later hb X0.out.lt))
  replace X1 := hide (show VBlk u2 _ _ by rw [← hu]; exact alloc_past (X1.out.later hb X1.out.lt))
  have X2 : Hide (VBlk u2 w2.heap.size (r0, r1)) := hide (by rw [← hu]; exact alloc_at rfl)
  replace B := hide (show Below W.heap.size W u2 by rw [← hu]; exact (B.out.trans (hb.mono B.out.size)).alloc (Nat.le_trans B.out.size hb.size) _)
  replace HU := hide hu
  clear hb hu
  go_wp2_with fail
  rw [HU.out]
  refine (C3.out _ (TL.out _ _ HT.out B.out)).mono ?_
  rintro e w3 ⟨rfl, hb⟩
  obtain ⟨u3, hu⟩ : ∃ u, w3.alloc (.cells #[.int .u64 (s0 : Int), .int .u64 (s1 : Int)] 24) = u := ⟨_, rfl⟩
  replace Fa := hide (show VBlk u3 _ _ by rw [← hu]; exact alloc_past (Fa.out.later hb Fa.out.lt))
  replace Fb := hide (show VBlk u3 _ _ by rw [← hu]; exact alloc_past (Fb.out.later hb Fb.out.lt))
  replace X0 := hide (show VBlk u3 _ _ by rw [← hu]; exact alloc_past (X0.out.later hb X0.out.lt))
  replace X1 := hide (show VBlk u3 _ _ by rw [← hu]; exact alloc_past (X1.out.later hb X1.out.lt))
  replace X2 := hide (show VBlk u3 _ _ by rw [← hu]; exact alloc_past (X2.out.later hb X2.out.lt))
  have X3 : Hide (VBlk u3 w3.heap.size (s0, s1)) := hide (by rw [← hu]; exact alloc_at rfl)
  replace B := hide (show Below W.heap.size W u3 by rw [← hu]; exact (B.out.trans (hb.mono B.out.size)).alloc (Nat.le_trans B.out.size hb.size) _)
  replace HU := hide hu
  clear hb hu
  go_wp2_with fail
  rw [HU.out]
  refine (C4.out _).mono ?_
  rintro e w4 hpost
  obtain ⟨g1, cap1, hg1, rfl, hcap, hx, hb⟩ := list_x hpost
  replace Fa := hide (Fa.out.later hb Fa.out.lt)
  replace B := hide (B.out.trans (hb.mono B.out.size))
  have KX := hide hx
  have h00 := HS.out.1
  clear hx hb hpost hg1 hcap X0 X1 X2 X3 Fb C0 C1 C2 C3 C4 HU
  go_wp2_with fail
  go_loop [16, 62] (fun m x => ∃ k : Nat, x = .int .i64 (k : Int) ∧ k ≤ 4 ∧ m = .int .u64 (S k : Int)) (fun _ x => 4 - (intOf x).toNat)
  case atStart => exact ⟨0, rfl, by omega, by rw [h00]; rfl⟩
  case round =>
    clear h00
    obtain ⟨k, rfl, hk, rfl⟩ := hrel
    by_cases c0 : k < 4
    · have c1 : (k : Int) < 4 := by omega
      have hA : w4.cell? ⟨g1, k, none⟩ = some (.int .u64 (fs k : Int)) := by
        have := KX.out.cell k c0
        rwa [show at0 ((List.range 4).map fs) k = fs k by simp [at0, List.getElem?_range c0]] at this
      have ES := HS.out.2.2 k c0
      have HC := hide c0
      obtain ⟨m2, hm2⟩ : ∃ m2, S (k + 1) = m2 := ⟨_, rfl⟩
      have HM2 := hide hm2
      rw [hm2] at ES
      clear hm2 HS c0 HV IX
      generalize fs k = xa at *
      generalize S k = mk at *
      go_wp2
      go_round
      case rel => exact ⟨k + 1, by go_num, HC.out, by rw [HM2.out]⟩
      case measure => have := HC.out; simp [intOf]; omega
    · obtain rfl : k = 4 := by omega
      rw [HS.out.2.1]
      have ga0 := Fa.out.c0
      have ga1 := Fa.out.c1
      simp only at ga0 ga1
      have h01 := HV.out.1
      clear HS c0 KX
      go_wp2_with fail
      refine (C5.out _).mono ?_
      rintro e w5 ⟨rfl, hb⟩
      replace B := hide (B.out.trans (hb.mono B.out.size))
      clear hb ga0 ga1
      go_wp2_with fail
      go_loop [17, 72] (fun m x => ∃ k : Nat, x = .int .i64 (k : Int) ∧ k ≤ 16 ∧ m = .int .u64 (U k : Int)) (fun _ x => 16 - (intOf x).toNat)
      case atStart => exact ⟨0, rfl, by omega, by rw [h01]; rfl⟩
      case round =>
        clear h01
        obtain ⟨k, rfl, hk, rfl⟩ := hrel
        by_cases c0 : k < 16
        · have c1 : (k : Int) < 16 := by omega
          have IK := IX.out k c0
          have ES := HV.out.2.2 k c0
          have hbk := LB.out k
          have wz : IntKind.u64.wrap (at0 L k : Int) = (at0 L k : Int) := by rw [IntKind.wrap_u64]; omega
          have HC := hide c0
          obtain ⟨m2, hm2⟩ : ∃ m2, U (k + 1) = m2 := ⟨_, rfl⟩
          have HM2 := hide hm2
          rw [hm2] at ES
          clear hm2 HV c0 IX LB hbk
          generalize at0 L k = xa at *
          generalize U k = mk at *
          go_wp2
          go_round
          case rel => exact ⟨k + 1, by go_num, HC.out, by rw [HM2.out]⟩
          case measure => have := HC.out; simp [intOf]; omega
        · obtain rfl : k = 16 := by omega
          rw [HV.out.2.1]
          clear HV c0 IX
          go_wp2_with fail
          refine (CW.out _ (TL.out _ _ HT.out B.out)).mono ?_
          rintro e wz ⟨rfl, hb⟩
          replace B := hide (B.out.trans (hb.mono B.out.size))
          clear hb
          go_wp2
          go_ret
          exact ⟨rfl, B.out⟩

set_option maxHeartbeats 8000000 in
theorem vsums_64 (T : World → Prop) (TL : Hide (∀ W W' : World, T W → Below W.heap.size W W' → T W')) (n a0 a1 b0 b1 p q r0 r1 s0 s1 tot : Nat) (fs : Nat → Nat) (L : List Nat)
    (CD : Hide (∀ W : World, Calls Tryd.prog 10 #[.int .u8 (n : Int)] W fun e W' => e = .returned (.int .i64 64) ∧ W' = W))
    (C0 : Hide (∀ W : World, T W → Calls Tryd.prog 18 #[.int .u8 1, .int .i64 64, vecV (a0, a1), vecV (b0, b1)] W fun e W' => e = .returned (vecE ((p, q), 0)) ∧ Below W.heap.size W W'))
    (C1 : Hide (∀ W : World, T W → Calls Tryd.prog 18 #[.int .u8 2, .int .i64 64, vecV (p, q), vecV (b0, b1)] W fun e W' => e = .returned (vecE ((a0, a1), 0)) ∧ Below W.heap.size W W'))
    (C2 : Hide (∀ W : World, T W → Calls Tryd.prog 19 #[.int .i64 8, .bool false, vecV (a0, a1)] W fun e W' => e = .returned (vecE ((r0, r1), 0)) ∧ Below W.heap.size W W'))
    (C3 : Hide (∀ W : World, T W → Calls Tryd.prog 19 #[.int .i64 16, .bool false, vecV (r0, r1)] W fun e W' => e = .returned (vecE ((s0, s1), 0)) ∧ Below W.heap.size W W'))
    (C4 : Hide (∀ W : World, Calls Tryd.prog 20 #[vecV (s0, s1), .int .i64 32] W fun e W' => ListPost W 4 ((List.range 4).map fs) e W'))
    (C5 : Hide (∀ W : World, Calls Tryd.prog 21 #[vecV (a0, a1)] W fun e W' => e = .returned (.agg (cellsB L)) ∧ Below W.heap.size W W'))
    (hL : L.length = 16) (LB : Hide (∀ i, at0 L i < 2 ^ 8)) (S U : Nat → Nat) (HS : Hide (S 0 = 0 ∧ S 4 = tot ∧ ∀ k, k < 4 → IntKind.u64.wrap ((S k : Int) + (fs k : Int)) = (S (k + 1) : Int))) (HV : Hide (U 0 = 0 ∧ U 16 = tot ∧ ∀ k, k < 16 → IntKind.u64.wrap ((U k : Int) + (at0 L k : Int)) = (U (k + 1) : Int)))
    (CW : Hide (∀ W : World, T W → Calls Tryd.prog 9 #[] W fun e W' => e = .returned (.bool true) ∧ Below W.heap.size W W'))
    (W : World) (HT : Hide (T W)) :
    Calls Tryd.prog 6 #[.int .u8 (n : Int), vecV (a0, a1), vecV (b0, b1)] W fun e W' => e = .returned (.bool true) ∧ Below W.heap.size W W' := by
  have IX := hide (fun (k : Nat) (hk : k < 16) => index16 hL k hk)
  clear hL
  obtain ⟨wa, hwa⟩ : ∃ wa, ((W.alloc (.cells #[.int .u64 (a0 : Int), .int .u64 (a1 : Int)] 24)).alloc (.cells #[.int .u64 (b0 : Int), .int .u64 (b1 : Int)] 24)) = wa := ⟨_, rfl⟩
  have Fa : Hide (VBlk wa (W.heap.size) (a0, a1)) := hide (by rw [← hwa]; exact alloc_past (alloc_at rfl))
  have Fb : Hide (VBlk wa (W.heap.size + 1) (b0, b1)) := hide (by rw [← hwa]; exact alloc_at (by simp))
  have B : Hide (Below W.heap.size W wa) := hide (by rw [← hwa]; exact ((Below.refl _ _).alloc (Nat.le_refl _) _).alloc (by simp) _)
  have HU := hide hwa
  clear hwa
  unfold vecE at C0 C1 C2 C3
  unfold vecV at C0 C1 C2 C3 C4 C5 ⊢
  simp only at C0 C1 C2 C3 C4 C5 ⊢
  go_enter Tryd.func6, Tryd.ntmps6
  go_wp2_with ((with_reducible refine (CD.out _).mono ?_); rintro e wq ⟨rfl, hww⟩; replace hww := hww.symm; subst hww)
  rw [HU.out]
  refine (C0.out _ (TL.out _ _ HT.out B.out)).mono ?_
  rintro e w0 ⟨rfl, hb⟩
  obtain ⟨u0, hu⟩ : ∃ u, w0.alloc (.cells #[.int .u64 (p : Int), .int .u64 (q : Int)] 24) = u := ⟨_, rfl⟩
  have gFb0 := (Fb.out.later hb Fb.out.lt).c0
  have gFb1 := (Fb.out.later hb Fb.out.lt).c1
  have lFb := (Fb.out.later hb Fb.out.lt).lt
  simp only at gFb0 gFb1
  replace Fa := hide (show VBlk u0 _ _ by rw [← hu]; exact alloc_past (Fa.out.later hb Fa.out.lt))
  replace Fb := hide (show VBlk u0 _ _ by rw [← hu]; exact alloc_past (Fb.out.later hb Fb.out.lt))
  have X0 : Hide (VBlk u0 w0.heap.size (p, q)) := hide (by rw [← hu]; exact alloc_at rfl)
  replace B := hide (show Below W.heap.size W u0 by rw [← hu]; exact (B.out.trans (hb.mono B.out.size)).alloc (Nat.le_trans B.out.size hb.size) _)
  replace HU := hide hu
  clear hb hu
  go_wp2_with fail
  rw [HU.out]
  clear lFb gFb0 gFb1
  refine (C1.out _ (TL.out _ _ HT.out B.out)).mono ?_
  rintro e w1 ⟨rfl, hb⟩
  obtain ⟨u1, hu⟩ : ∃ u, w1.alloc (.cells #[.int .u64 (a0 : Int), .int .u64 (a1 : Int)] 24) = u := ⟨_, rfl⟩
  have gFa0 := (Fa.out.later hb Fa.out.lt).c0
  have gFa1 := (Fa.out.later hb Fa.out.lt).c1
  have lFa := (Fa.out.later hb Fa.out.lt).lt
  simp only at gFa0 gFa1
  replace Fa := hide (show VBlk u1 _ _ by rw [← hu]; exact alloc_past (Fa.out.later hb Fa.out.lt))
  replace Fb := hide (show VBlk u1 _ _ by rw [← hu]; exact alloc_past (Fb.out.later hb Fb.out.lt))
  replace X0 := hide (show VBlk u1 _ _ by rw [← hu]; exact alloc_past (X0.out.later hb X0.out.lt))
  have X1 : Hide (VBlk u1 w1.heap.size (a0, a1)) := hide (by rw [← hu]; exact alloc_at rfl)
  replace B := hide (show Below W.heap.size W u1 by rw [← hu]; exact (B.out.trans (hb.mono B.out.size)).alloc (Nat.le_trans B.out.size hb.size) _)
  replace HU := hide hu
  clear hb hu
  go_wp2_with fail
  rw [HU.out]
  clear lFa gFa0 gFa1
  refine (C2.out _ (TL.out _ _ HT.out B.out)).mono ?_
  rintro e w2 ⟨rfl, hb⟩
  obtain ⟨u2, hu⟩ : ∃ u, w2.alloc (.cells #[.int .u64 (r0 : Int), .int .u64 (r1 : Int)] 24) = u := ⟨_, rfl⟩
  replace Fa := hide (show VBlk u2 _ _ by rw [← hu]; exact alloc_past (Fa.out.later hb Fa.out.lt))
  replace Fb := hide (show VBlk u2 _ _ by rw [← hu]; exact alloc_past (Fb.out.later hb Fb.out.lt))
  replace X0 := hide (show VBlk u2 _ _ by rw [← hu]; exact alloc_past (X0.out.later hb X0.out.lt))
  replace X1 := hide (show VBlk u2 _ _ by rw [← hu]; exact alloc_past (X1.out.later hb X1.out.lt))
  have X2 : Hide (VBlk u2 w2.heap.size (r0, r1)) := hide (by rw [← hu]; exact alloc_at rfl)
  replace B := hide (show Below W.heap.size W u2 by rw [← hu]; exact (B.out.trans (hb.mono B.out.size)).alloc (Nat.le_trans B.out.size hb.size) _)
  replace HU := hide hu
  clear hb hu
  go_wp2_with fail
  rw [HU.out]
  refine (C3.out _ (TL.out _ _ HT.out B.out)).mono ?_
  rintro e w3 ⟨rfl, hb⟩
  obtain ⟨u3, hu⟩ : ∃ u, w3.alloc (.cells #[.int .u64 (s0 : Int), .int .u64 (s1 : Int)] 24) = u := ⟨_, rfl⟩
  replace Fa := hide (show VBlk u3 _ _ by rw [← hu]; exact alloc_past (Fa.out.later hb Fa.out.lt))
  replace Fb := hide (show VBlk u3 _ _ by rw [← hu]; exact alloc_past (Fb.out.later hb Fb.out.lt))
  replace X0 := hide (show VBlk u3 _ _ by rw [← hu]; exact alloc_past (X0.out.later hb X0.out.lt))
  replace X1 := hide (show VBlk u3 _ _ by rw [← hu]; exact alloc_past (X1.out.later hb X1.out.lt))
  replace X2 := hide (show VBlk u3 _ _ by rw [← hu]; exact alloc_past (X2.out.later hb X2.out.lt))
  have X3 : Hide (VBlk u3 w3.heap.size (s0, s1)) := hide (by rw [← hu]; exact alloc_at rfl)
  replace B := hide (show Below W.heap.size W u3 by rw [← hu]; exact (B.out.trans (hb.mono B.out.size)).alloc (Nat.le_trans B.out.size hb.size) _)
  replace HU := hide hu
  clear hb hu
  go_wp2_with fail
  rw [HU.out]
  refine (C4.out _).mono ?_
  rintro e w4 hpost
  obtain ⟨g1, cap1, hg1, rfl, hcap, hx, hb⟩ := list_x hpost
  replace Fa := hide (Fa.out.later hb Fa.out.lt)
  replace B := hide (B.out.trans (hb.mono B.out.size))
  have KX := hide hx
  have h00 := HS.out.1
  clear hx hb hpost hg1 hcap X0 X1 X2 X3 Fb C0 C1 C2 C3 C4 HU
  go_wp2_with fail
  go_loop [16, 62] (fun m x => ∃ k : Nat, x = .int .i64 (k : Int) ∧ k ≤ 4 ∧ m = .int .u64 (S k : Int)) (fun _ x => 4 - (intOf x).toNat)
  case atStart => exact ⟨0, rfl, by omega, by rw [h00]; rfl⟩
  case round =>
    clear h00
    obtain ⟨k, rfl, hk, rfl⟩ := hrel
    by_cases c0 : k < 4
    · have c1 : (k : Int) < 4 := by omega
      have hA : w4.cell? ⟨g1, k, none⟩ = some (.int .u64 (fs k : Int)) := by
        have := KX.out.cell k c0
        rwa [show at0 ((List.range 4).map fs) k = fs k by simp [at0, List.getElem?_range c0]] at this
      have ES := HS.out.2.2 k c0
      have HC := hide c0
      obtain ⟨m2, hm2⟩ : ∃ m2, S (k + 1) = m2 := ⟨_, rfl⟩
      have HM2 := hide hm2
      rw [hm2] at ES
      clear hm2 HS c0 HV IX
      generalize fs k = xa at *
      generalize S k = mk at *
      go_wp2
      go_round
      case rel => exact ⟨k + 1, by go_num, HC.out, by rw [HM2.out]⟩
      case measure => have := HC.out; simp [intOf]; omega
    · obtain rfl : k = 4 := by omega
      rw [HS.out.2.1]
      have ga0 := Fa.out.c0
      have ga1 := Fa.out.c1
      simp only at ga0 ga1
      have h01 := HV.out.1
      clear HS c0 KX
      go_wp2_with fail
      refine (C5.out _).mono ?_
      rintro e w5 ⟨rfl, hb⟩
      replace B := hide (B.out.trans (hb.mono B.out.size))
      clear hb ga0 ga1
      go_wp2_with fail
      go_loop [17, 72] (fun m x => ∃ k : Nat, x = .int .i64 (k : Int) ∧ k ≤ 16 ∧ m = .int .u64 (U k : Int)) (fun _ x => 16 - (intOf x).toNat)
      case atStart => exact ⟨0, rfl, by omega, by rw [h01]; rfl⟩
      case round =>
        clear h01
        obtain ⟨k, rfl, hk, rfl⟩ := hrel
        by_cases c0 : k < 16
        · have c1 : (k : Int) < 16 := by omega
          have IK := IX.out k c0
          have ES := HV.out.2.2 k c0
          have hbk := LB.out k
          have wz : IntKind.u64.wrap (at0 L k : Int) = (at0 L k : Int) := by rw [IntKind.wrap_u64]; omega
          have HC := hide c0
          obtain ⟨m2, hm2⟩ : ∃ m2, U (k + 1) = m2 := ⟨_, rfl⟩
          have HM2 := hide hm2
          rw [hm2] at ES
          clear hm2 HV c0 IX LB hbk
          generalize at0 L k = xa at *
          generalize U k = mk at *
          go_wp2
          go_round
          case rel => exact ⟨k + 1, by go_num, HC.out, by rw [HM2.out]⟩
          case measure => have := HC.out; simp [intOf]; omega
        · obtain rfl : k = 16 := by omega
          rw [HV.out.2.1]
          clear HV c0 IX
          go_wp2_with fail
          refine (CW.out _ (TL.out _ _ HT.out B.out)).mono ?_
          rintro e wz ⟨rfl, hb⟩
          replace B := hide (B.out.trans (hb.mono B.out.size))
          clear hb
          go_wp2
          go_ret
          exact ⟨rfl, B.out⟩

end Go.Proofs.YtoihfmammmkloabDoor
