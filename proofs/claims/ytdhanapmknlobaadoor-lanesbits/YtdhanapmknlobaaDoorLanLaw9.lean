/-
  The walk of LanesBits.
-/
import Derived.Test.YtdhanapmknlobaaDoorLanRBits
set_option linter.unusedVariables false
set_option linter.unusedSimpArgs false
namespace Go.Proofs.YtdhanapmknlobaaDoor
open Go.RowKit Lan

set_option maxHeartbeats 4000000 in
theorem lbits_law_walk (op : Int) (a0 a1 b0 b1 c0 c1 p q : Nat) (er : Int) (t : Bool)
    (C1 : Hide (∀ W : World, Calls Tryd.prog 29 #[.int .u8 op, vecV (a0, a1), vecV (b0, b1), vecV (c0, c1)] W fun e W' => e = .returned (vecE ((p, q), er)) ∧ Below W.heap.size W W'))
    (C2 : Hide (∀ W : World, Calls Tryd.prog 30 #[.int .u8 op, vecV (a0, a1), vecV (b0, b1), vecV (c0, c1)] W fun e W' => e = .returned (vecE ((p, q), er)) ∧ Below W.heap.size W W'))
    (C3 : ∀ W : World, Calls Tryd.prog 31 #[vecV (a0, a1)] W fun e W' => e = .returned (.bool t) ∧ Below W.heap.size W W')
    (C4 : ∀ W : World, Calls Tryd.prog 32 #[vecV (a0, a1)] W fun e W' => e = .returned (.bool t) ∧ Below W.heap.size W W')
    (W : World) (HT : Hide (WTabs W)) :
    Calls Tryd.prog 7 #[.int .u8 op, vecV (a0, a1), vecV (b0, b1), vecV (c0, c1)] W fun e W' => e = .returned (.bool true) ∧ Below W.heap.size W W' := by
  obtain ⟨wa, hwa⟩ : ∃ wa, ((W.alloc (.cells #[.int .u64 (a0 : Int), .int .u64 (a1 : Int)] 24)).alloc (.cells #[.int .u64 (b0 : Int), .int .u64 (b1 : Int)] 24)).alloc (.cells #[.int .u64 (c0 : Int), .int .u64 (c1 : Int)] 24) = wa := ⟨_, rfl⟩
  have VA : Hide (VBlk wa W.heap.size (a0, a1)) := hide (by rw [← hwa]; exact alloc_past (alloc_past (alloc_at rfl)))
  have VB : Hide (VBlk wa (W.heap.size + 1) (b0, b1)) := hide (by rw [← hwa]; exact alloc_past (alloc_at (by simp)))
  have VC : Hide (VBlk wa (W.heap.size + 1 + 1) (c0, c1)) := hide (by rw [← hwa]; exact alloc_at (by simp))
  have BA : Hide (Below W.heap.size W wa) := hide (by rw [← hwa]; exact (((Below.refl _ _).alloc (Nat.le_refl _) _).alloc (by simp) _).alloc (by simp; omega) _)
  have HWA := hide hwa
  have C3 := hide C3
  have C4 := hide C4
  clear hwa
  unfold vecE at C1 C2
  unfold vecV at C1 C2 C3 C4 ⊢
  simp only at C1 C2 C3 C4 ⊢
  go_enter Tryd.func7, Tryd.ntmps7
  go_wp2_with fail
  rw [HWA.out]
  refine (C1.out _).mono ?_
  rintro e w1 ⟨rfl, hb⟩
  obtain ⟨wb, hwb⟩ : ∃ wb, w1.alloc (.cells #[.int .u64 (p : Int), .int .u64 (q : Int)] 24) = wb := ⟨_, rfl⟩
  have BB : Hide (Below wa.heap.size wa wb) := hide (by rw [← hwb]; exact hb.alloc hb.size _)
  have X1 : Hide (VBlk wb w1.heap.size (p, q)) := hide (by rw [← hwb]; exact alloc_at rfl)
  have VA1 := hide (VA.out.later BB.out VA.out.lt)
  have VB1 := hide (VB.out.later BB.out VB.out.lt)
  have VC1 := hide (VC.out.later BB.out VC.out.lt)
  have hlt : W.heap.size < w1.heap.size := (VA.out.later hb VA.out.lt).lt
  have hlt2 : W.heap.size + 1 < w1.heap.size := (VB.out.later hb VB.out.lt).lt
  have hlt3 : W.heap.size + 1 + 1 < w1.heap.size := (VC.out.later hb VC.out.lt).lt
  have g0 := (VA.out.later hb VA.out.lt).c0
  have g1 := (VA.out.later hb VA.out.lt).c1
  have g2 := (VB.out.later hb VB.out.lt).c0
  have g3 := (VB.out.later hb VB.out.lt).c1
  have g4 := (VC.out.later hb VC.out.lt).c0
  have g5 := (VC.out.later hb VC.out.lt).c1
  simp only at g0 g1 g2 g3 g4 g5
  have HWB := hide hwb
  clear hb hwb
  go_wp2_with fail
  rw [HWB.out]
  refine (C2.out _).mono ?_
  rintro e w2 ⟨rfl, hb⟩
  obtain ⟨wc, hwc⟩ : ∃ wc, w2.alloc (.cells #[.int .u64 (p : Int), .int .u64 (q : Int)] 24) = wc := ⟨_, rfl⟩
  have BC : Hide (Below W.heap.size W wc) := hide (by rw [← hwc]; exact ((BA.out.trans (BB.out.mono BA.out.size)).trans (hb.mono (Nat.le_trans BA.out.size BB.out.size))).alloc (Nat.le_trans (Nat.le_trans BA.out.size BB.out.size) hb.size) _)
  have BD : Hide (Below wb.heap.size wb wc) := hide (by rw [← hwc]; exact hb.alloc hb.size _)
  have X2 : Hide (VBlk wc w2.heap.size (p, q)) := hide (by rw [← hwc]; exact alloc_at rfl)
  have HWC := hide hwc
  clear hb hwc g0 g1 g2 g3 g4 g5 hlt hlt2 hlt3
  have D3 := hide (from_base (wa := wc) C3.out)
  have D4 := hide (from_base (wa := wc) C4.out)
  have D5 := hide (from_tabs (HT.out.later BC.out) works_calls)
  obtain ⟨I, F, hne, hF, hin⟩ := family wc
  have E3 := hide (in_family hF hin D3.out)
  have E4 := hide (in_family hF hin D4.out)
  have E5 := hide (in_family hF hin D5.out)
  have VAc := hide (VA1.out.later BD.out VA1.out.lt)
  have X1c := hide (X1.out.later BD.out X1.out.lt)
  have hc0 : ∀ i, (F i).cell? ⟨W.heap.size, 0, none⟩ = some (.int .u64 (a0 : Int)) := fun i => (VAc.out.later (hF i) VAc.out.lt).c0
  have hc1 : ∀ i, (F i).cell? ⟨W.heap.size, 1, none⟩ = some (.int .u64 (a1 : Int)) := fun i => (VAc.out.later (hF i) VAc.out.lt).c1
  have hx0 : ∀ i, (F i).cell? ⟨w1.heap.size, 0, none⟩ = some (.int .u64 (p : Int)) := fun i => (X1c.out.later (hF i) X1c.out.lt).c0
  have hx1 : ∀ i, (F i).cell? ⟨w1.heap.size, 1, none⟩ = some (.int .u64 (q : Int)) := fun i => (X1c.out.later (hF i) X1c.out.lt).c1
  have hy0 : ∀ i, (F i).cell? ⟨w2.heap.size, 0, none⟩ = some (.int .u64 (p : Int)) := fun i => (X2.out.later (hF i) X2.out.lt).c0
  have hy1 : ∀ i, (F i).cell? ⟨w2.heap.size, 1, none⟩ = some (.int .u64 (q : Int)) := fun i => (X2.out.later (hF i) X2.out.lt).c1
  have HF := hide hF
  have IN2 := hide hin
  clear hF hin D3 D4 D5 C1 C2 C3 C4
  go_wp2_with fail
  refine wp_region_class F (by kernel_rfl) (by kernel_rfl) ?_ ?_
  · refine IN2.out _ ?_
    rw [HWC.out]; exact (Below.refl _ _).drew
  repeat (refine wpQuiet_step (fun K hK => ?_); go_simp; first | (refine hK _ ?_; clear hK K) | (apply Exists.intro; refine ⟨fun _ => ?_, hK _ ?_⟩; (first | exact E3.out _ | exact E4.out _ | exact E5.out _); clear hK K))
  refine wpQuiet_nil ?_
  rintro _ ⟨i, rfl⟩
  go_wp2_with fail
  go_ret
  exact ⟨rfl, BC.out.trans ((HF.out i).mono BC.out.size)⟩

theorem lanesBits_calls (op : Int) (a : Nat × Nat) (ha : Vok a) (b : Nat × Nat) (hb : Vok b) (c : Nat × Nat) (hc : Vok c) (W : World) (hT : WTabs W) :
    Calls Tryd.prog 7 #[.int .u8 op, vecV a, vecV b, vecV c] W fun e W' => e = .returned (.bool true) ∧ Below W.heap.size W W' := by
  have C1 := fun W => lbits_calls op a b c ha hb hc W
  have C2 := fun W => rbits_calls op a b c ha hb hc W
  have C3 := fun W => lany_calls a W
  have C4 := fun W => rany_calls a W
  obtain ⟨⟨⟨p, q⟩, er⟩, hF⟩ : ∃ F, bitsV op a b c = F := ⟨_, rfl⟩
  rw [hF] at C1 C2
  generalize anyN a = t at *
  obtain ⟨a0, a1⟩ := a
  obtain ⟨b0, b1⟩ := b
  obtain ⟨c0, c1⟩ := c
  exact lbits_law_walk op a0 a1 b0 b1 c0 c1 p q er t (hide C1) (hide C2) C3 C4 W (hide hT)
end Go.Proofs.YtdhanapmknlobaaDoor
