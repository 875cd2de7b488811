/-
  The laws' works and VintsLane of vints, over contracts that are handed in.
-/
import Derived.Test.YtoihfmammmkloabDoorPkLan
set_option linter.unusedVariables false
set_option linter.unusedSimpArgs false
namespace Go.Proofs.YtoihfmammmkloabDoor
open Go.RowKit Lan

set_option maxHeartbeats 8000000 in
theorem vworks_walk (T : World → Prop) (TL : Hide (∀ W W' : World, T W → Below W.heap.size W W' → T W')) (m o : Nat)
    (C0 : Hide (∀ W : World, T W → Calls Tryd.prog 30 #[.int .i64 8, .int .u64 255] W fun e W' => e = .returned (vecE ((m, m), 0)) ∧ Below W.heap.size W W'))
    (C1 : Hide (∀ W : World, T W → Calls Tryd.prog 30 #[.int .i64 8, .int .u64 1] W fun e W' => e = .returned (vecE ((o, o), 0)) ∧ Below W.heap.size W W'))
    (C2 : Hide (∀ W : World, T W → Calls Tryd.prog 18 #[.int .u8 1, .int .i64 8, vecV (m, m), vecV (o, o)] W fun e W' => e = .returned (vecE ((0, 0), 0)) ∧ Below W.heap.size W W'))
    (C3 : Hide (∀ W : World, T W → Calls Tryd.prog 12 #[.int .i64 8, vecV (m, m)] W fun e W' => e = .returned (.tuple #[.int .u64 65535, .int .i64 0]) ∧ Below W.heap.size W W'))
    
    (W : World) (HT : Hide (T W)) :
    Calls Tryd.prog 9 #[] W fun e W' => e = .returned (.bool true) ∧ Below W.heap.size W W' := by
  have B : Hide (Below W.heap.size W W) := hide (Below.refl _ _)
  unfold vecE at C0 C1 C2
  unfold vecV at C0 C1 C2 C3
  simp only at C0 C1 C2 C3
  go_enter Tryd.func9, Tryd.ntmps9
  go_wp2_with fail
  refine (C0.out _ (TL.out _ _ HT.out B.out)).mono ?_
  rintro e w0 ⟨rfl, hb⟩
  obtain ⟨u0, hu⟩ : ∃ u, w0.alloc (.cells #[.int .u64 (m : Int), .int .u64 (m : Int)] 24) = u := ⟨_, rfl⟩
  have X0 : Hide (VBlk u0 w0.heap.size (m, m)) := hide (by rw [← hu]; exact alloc_at rfl)
  replace B := hide (show Below W.heap.size W u0 by rw [← hu]; exact (B.out.trans (hb.mono B.out.size)).alloc (Nat.le_trans B.out.size hb.size) _)
  replace HU := hide hu
  clear hb hu
  go_wp2_with fail
  rw [HU.out]
  refine (C1.out _ (TL.out _ _ HT.out B.out)).mono ?_
  rintro e w1 ⟨rfl, hb⟩
  obtain ⟨u1, hu⟩ : ∃ u, w1.alloc (.cells #[.int .u64 (o : Int), .int .u64 (o : Int)] 24) = u := ⟨_, rfl⟩
  have gX00 := (X0.out.later hb X0.out.lt).c0
  have gX01 := (X0.out.later hb X0.out.lt).c1
  have lX0 := (X0.out.later hb X0.out.lt).lt
  simp only at gX00 gX01
  replace X0 := hide (show VBlk u1 _ _ by rw [← hu]; exact alloc_past (X0.out.later hb X0.out.lt))
  have X1 : Hide (VBlk u1 w1.heap.size (o, o)) := hide (by rw [← hu]; exact alloc_at rfl)
  replace B := hide (show Below W.heap.size W u1 by rw [← hu]; exact (B.out.trans (hb.mono B.out.size)).alloc (Nat.le_trans B.out.size hb.size) _)
  replace HU := hide hu
  clear hb hu
  go_wp2_with fail
  rw [HU.out]
  clear lX0 gX00 gX01
  refine (C2.out _ (TL.out _ _ HT.out B.out)).mono ?_
  rintro e w2 ⟨rfl, hb⟩
  obtain ⟨u2, hu⟩ : ∃ u, w2.alloc (.cells #[.int .u64 0, .int .u64 0] 24) = u := ⟨_, rfl⟩
  have gX00 := (X0.out.later hb X0.out.lt).c0
  have gX01 := (X0.out.later hb X0.out.lt).c1
  have lX0 := (X0.out.later hb X0.out.lt).lt
  simp only at gX00 gX01
  replace X0 := hide (show VBlk u2 _ _ by rw [← hu]; exact alloc_past (X0.out.later hb X0.out.lt))
  replace X1 := hide (show VBlk u2 _ _ by rw [← hu]; exact alloc_past (X1.out.later hb X1.out.lt))
  have X2 : Hide (VBlk u2 w2.heap.size (0, 0)) := hide (by rw [← hu]; exact alloc_at rfl)
  replace B := hide (show Below W.heap.size W u2 by rw [← hu]; exact (B.out.trans (hb.mono B.out.size)).alloc (Nat.le_trans B.out.size hb.size) _)
  replace HU := hide hu
  clear hb hu
  go_wp2_with fail
  rw [HU.out]
  clear lX0 gX00 gX01
  refine (C3.out _ (TL.out _ _ HT.out B.out)).mono ?_
  rintro e w3 ⟨rfl, hb⟩
  replace X0 := hide (X0.out.later hb X0.out.lt)
  replace X1 := hide (X1.out.later hb X1.out.lt)
  replace X2 := hide (X2.out.later hb X2.out.lt)
  replace B := hide (B.out.trans (hb.mono B.out.size))
  have gX20 := X2.out.c0
  have gX21 := X2.out.c1
  simp only at gX20 gX21
  clear hb
  go_wp2
  go_ret
  exact ⟨rfl, B.out⟩

end Go.Proofs.YtoihfmammmkloabDoor
