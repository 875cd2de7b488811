/-
  The walk of LanesShuffles.
-/
import Derived.Test.YtdhanapmknlobabDoorLanShuf
import Derived.Test.YtdhanapmknlobabDoorLanSwiz
set_option linter.unusedVariables false
set_option linter.unusedSimpArgs false
namespace Go.Proofs.YtdhanapmknlobabDoor
open Go.RowKit Lan

def SlAt (W : World) (a b : Nat × Nat) (g : Nat) (L1 L2 L3 B : List Nat) (wr : World) : Prop :=
  VBlk wr W.heap.size a ∧ VBlk wr (W.heap.size + 1) b ∧ Blk wr (W.heap.size + 1 + 1) L1 ∧ Blk wr (W.heap.size + 1 + 1 + 1) L2 ∧ Blk wr (W.heap.size + 1 + 1 + 1 + 1) L3 ∧ Blk wr g B ∧ Below W.heap.size W wr
theorem SlAt.later {W : World} {a b : Nat × Nat} {g : Nat} {L1 L2 L3 B : List Nat} {w w' : World} (h : SlAt W a b g L1 L2 L3 B w) (hb : Below w.heap.size w w') : SlAt W a b g L1 L2 L3 B w' :=
  ⟨h.1.later hb h.1.lt, h.2.1.later hb h.2.1.lt, h.2.2.1.later hb h.2.2.1.lt, h.2.2.2.1.later hb h.2.2.2.1.lt, h.2.2.2.2.1.later hb h.2.2.2.2.1.lt, h.2.2.2.2.2.1.later hb h.2.2.2.2.2.1.lt, h.2.2.2.2.2.2.trans (hb.mono h.2.2.2.2.2.2.size)⟩
theorem SlAt.put {W : World} {a b : Nat × Nat} {g : Nat} {L1 L2 L3 B : List Nat} {w : World} (h : SlAt W a b g L1 L2 L3 B w) (hg : W.heap.size + 4 < g) (k x y z : Nat) :
    SlAt W a b g (L1.set k x) (L2.set k y) (L3.set k z) B (((w.setCell ⟨W.heap.size + 1 + 1, k, none⟩ (.int .u8 (x : Int))).setCell ⟨W.heap.size + 1 + 1 + 1, k, none⟩ (.int .u8 (y : Int))).setCell ⟨W.heap.size + 1 + 1 + 1 + 1, k, none⟩ (.int .u8 (z : Int))) := by
  obtain ⟨a1, a2, a3, a4, a5, a6, a7⟩ := h
  refine ⟨((a1.other (by omega) _ _).other (by omega) _ _).other (by omega) _ _, ((a2.other (by omega) _ _).other (by omega) _ _).other (by omega) _ _, ((a3.set k x).other (by omega) _ _).other (by omega) _ _, ((a4.other (by omega) _ _).set k y).other (by omega) _ _, ((a5.other (by omega) _ _).other (by omega) _ _).set k z, ((a6.other (by omega) _ _).other (by omega) _ _).other (by omega) _ _, ((a7.setCell (by simp; omega) _).setCell (by simp; omega) _).setCell (by simp; omega) _⟩
theorem SlAt.put3 {W : World} {a b : Nat × Nat} {g : Nat} {L1 L2 L3 B : List Nat} {w : World} (h : SlAt W a b g L1 L2 L3 B w) (hg : W.heap.size + 4 < g) (k z : Nat) :
    SlAt W a b g L1 L2 (L3.set k z) B (w.setCell ⟨W.heap.size + 1 + 1 + 1 + 1, k, none⟩ (.int .u8 (z : Int))) := by
  obtain ⟨a1, a2, a3, a4, a5, a6, a7⟩ := h
  exact ⟨a1.other (by omega) _ _, a2.other (by omega) _ _, a3.other (by omega) _ _, a4.other (by omega) _ _, a5.set k z, a6.other (by omega) _ _, a7.setCell (by simp; omega) _⟩

set_option maxHeartbeats 8000000 in
theorem shuffles_walk (a0 a1 b0 b1 p q : Nat) (B : List Nat) (hB : B.length = 16) (f : Nat → Nat) (HF : Hide (∀ i, f i = if at0 B i < 16 then at0 B i else 16))
    (CB : Hide (∀ W : World, Calls Tryd.prog 11 #[vecV (b0, b1)] W fun e W' => e = .returned (.agg (cellsB B)) ∧ Below W.heap.size W W'))
    (C1 : Hide (∀ W : World, Calls Tryd.prog 12 #[vecV (a0, a1), vecV (b0, b1), .agg (cellsB (fillTo (fun i => i) 16))] W fun e W' => e = .returned (vecE ((a0, a1), 0)) ∧ Below W.heap.size W W'))
    (C2 : Hide (∀ W : World, Calls Tryd.prog 12 #[vecV (a0, a1), vecV (b0, b1), .agg (cellsB (fillTo (fun i => 16 + i) 16))] W fun e W' => e = .returned (vecE ((b0, b1), 0)) ∧ Below W.heap.size W W'))
    (C3 : Hide (∀ W : World, Calls Tryd.prog 12 #[vecV (a0, a1), vecV (0, 0), .agg (cellsB (fillTo f 16))] W fun e W' => e = .returned (vecE ((p, q), 0)) ∧ Below W.heap.size W W'))
    (C4 : ∀ W : World, Calls Tryd.prog 13 #[vecV (a0, a1), vecV (b0, b1)] W fun e W' => e = .returned (vecV (p, q)) ∧ Below W.heap.size W W')
    (W : World) (HT : Hide (WTabs W)) :
    Calls Tryd.prog 4 #[vecV (a0, a1), vecV (b0, b1)] W fun e W' => e = .returned (.bool true) ∧ Below W.heap.size W W' := by
  obtain ⟨wa, hwa⟩ : ∃ wa, ((((W.alloc (.cells #[.int .u64 (a0 : Int), .int .u64 (a1 : Int)] 24)).alloc (.cells #[.int .u64 (b0 : Int), .int .u64 (b1 : Int)] 24)).alloc (.cells #[.int .u8 0, .int .u8 0, .int .u8 0, .int .u8 0, .int .u8 0, .int .u8 0, .int .u8 0, .int .u8 0, .int .u8 0, .int .u8 0, .int .u8 0, .int .u8 0, .int .u8 0, .int .u8 0, .int .u8 0, .int .u8 0] 34)).alloc (.cells #[.int .u8 0, .int .u8 0, .int .u8 0, .int .u8 0, .int .u8 0, .int .u8 0, .int .u8 0, .int .u8 0, .int .u8 0, .int .u8 0, .int .u8 0, .int .u8 0, .int .u8 0, .int .u8 0, .int .u8 0, .int .u8 0] 34)).alloc (.cells #[.int .u8 0, .int .u8 0, .int .u8 0, .int .u8 0, .int .u8 0, .int .u8 0, .int .u8 0, .int .u8 0, .int .u8 0, .int .u8 0, .int .u8 0, .int .u8 0, .int .u8 0, .int .u8 0, .int .u8 0, .int .u8 0] 34) = wa := ⟨_, rfl⟩
  have VA : Hide (VBlk wa W.heap.size (a0, a1)) := hide (by rw [← hwa]; exact alloc_past (alloc_past (alloc_past (alloc_past (alloc_at rfl)))))
  have VB : Hide (VBlk wa (W.heap.size + 1) (b0, b1)) := hide (by rw [← hwa]; exact alloc_past (alloc_past (alloc_past (alloc_at (by simp)))))
  have Z1 : Hide (Blk wa (W.heap.size + 1 + 1) zero16) := hide (by rw [← hwa]; exact alloc_past (alloc_past (alloc_at (by simp))))
  have Z2 : Hide (Blk wa (W.heap.size + 1 + 1 + 1) zero16) := hide (by rw [← hwa]; exact alloc_past (alloc_at (by simp)))
  have Z3 : Hide (Blk wa (W.heap.size + 1 + 1 + 1 + 1) zero16) := hide (by rw [← hwa]; exact alloc_at (by simp))
  have BA : Hide (Below W.heap.size W wa) := hide (by rw [← hwa]; exact (((((Below.refl _ _).alloc (Nat.le_refl _) _).alloc (by simp) _).alloc (by simp; omega) _).alloc (by simp; omega) _).alloc (by simp; omega) _)
  have HWA := hide hwa
  have HB := hide hB
  have C4 := hide C4
  clear hwa hB
  unfold vecE at C1 C2 C3
  unfold vecV at CB C1 C2 C3 C4 ⊢
  simp only at CB C1 C2 C3 C4 ⊢
  go_enter Tryd.func4, Tryd.ntmps4
  go_wp2_with fail
  rw [HWA.out]
  refine (CB.out _).mono ?_
  rintro e w1 ⟨rfl, hb⟩
  have JB := hide hb
  have AL : Hide (Blk (w1.alloc (.cells (cellsB zero16) 34)) w1.heap.size zero16) := hide (alloc_at rfl)
  obtain ⟨wb, hwb⟩ : ∃ wb, (w1.alloc (.cells #[.int .u8 0, .int .u8 0, .int .u8 0, .int .u8 0, .int .u8 0, .int .u8 0, .int .u8 0, .int .u8 0, .int .u8 0, .int .u8 0, .int .u8 0, .int .u8 0, .int .u8 0, .int .u8 0, .int .u8 0, .int .u8 0] 34)).setRow w1.heap.size (cellsB B) = wb := ⟨_, rfl⟩
  have KB : Hide (Blk wb w1.heap.size B) := hide (by rw [← hwb]; exact setRow_heap _ _ _ _ _ _ AL.out)
  have BB : Hide (Below wa.heap.size wa wb) := hide (by rw [← hwb]; exact below_setRow (JB.out.alloc JB.out.size _) JB.out.size _)
  have HG : Hide (W.heap.size + 4 < w1.heap.size) := hide (by have := (Z3.out.later hb Z3.out.lt).lt; omega)
  have S0 : Hide (SlAt W (a0, a1) (b0, b1) w1.heap.size (fillTo (fun i => i) 0) (fillTo (fun i => 16 + i) 0) (fillTo f 0) B wb) := hide ⟨VA.out.later BB.out VA.out.lt, VB.out.later BB.out VB.out.lt, Z1.out.later BB.out Z1.out.lt, Z2.out.later BB.out Z2.out.lt, Z3.out.later BB.out Z3.out.lt, KB.out, BA.out.trans (BB.out.mono BA.out.size)⟩
  have HWB := hide hwb
  clear hb hwb
  go_wp2_with (refine wpList_store_row rfl 34 _ _ rfl w1.heap.size (cellsB B) rfl rfl 34 (cellsB zero16) AL.out (info16' HB.out) (by rw [cellsB_size, cellsB_size, HB.out]; rfl) (cellsB_one B) ?_; rw [HWB.out])
  clear AL KB BB JB VA VB Z1 Z2 Z3 BA HWA HWB CB
  go_loopw [9] (fun x wr => ∃ k : Nat, x = .int .i64 (k : Int) ∧ k ≤ 16 ∧ SlAt W (a0, a1) (b0, b1) w1.heap.size (fillTo (fun i => i) k) (fillTo (fun i => 16 + i) k) (fillTo f k) B wr) (fun x _ => 16 - (intOf x).toNat)
  case atStart => exact ⟨0, rfl, by omega, S0.out⟩
  case round =>
    obtain ⟨k, rfl, hk, hr⟩ := hrel
    have H := hide hr
    clear hr S0
    by_cases c : k < 16
    · have c1 : (k : Int) < 16 := by omega
      have hfk := HF.out k
      have ST1 := hide (fill_set (fun i => i) k c)
      have ST2 := hide (fill_set (fun i => 16 + i) k c)
      have ST3 := hide (fill_set f k c)
      have h1 : wr.cell? ⟨W.heap.size + 1 + 1, k, none⟩ = some (.int .u8 (at0 (fillTo (fun i => i) k) k : Int)) := H.out.2.2.1.cell k (by rw [fill_length]; exact c)
      have h2 : wr.cell? ⟨W.heap.size + 1 + 1 + 1, k, none⟩ = some (.int .u8 (at0 (fillTo (fun i => 16 + i) k) k : Int)) := H.out.2.2.2.1.cell k (by rw [fill_length]; exact c)
      have h3 : wr.cell? ⟨W.heap.size + 1 + 1 + 1 + 1, k, none⟩ = some (.int .u8 (at0 (fillTo f k) k : Int)) := H.out.2.2.2.2.1.cell k (by rw [fill_length]; exact c)
      have h4 : wr.cell? ⟨w1.heap.size, k, none⟩ = some (.int .u8 (at0 B k : Int)) := H.out.2.2.2.2.2.1.cell k (by rw [HB.out]; exact c)
      have z1 : wr.frozen? ⟨W.heap.size + 1 + 1, k, none⟩ = false := H.out.2.2.1.frozen k
      have z2 : wr.frozen? ⟨W.heap.size + 1 + 1 + 1, k, none⟩ = false := H.out.2.2.2.1.frozen k
      have z3 : wr.frozen? ⟨W.heap.size + 1 + 1 + 1 + 1, k, none⟩ = false := H.out.2.2.2.2.1.frozen k
      have hg1 : W.heap.size + 1 + 1 ≠ w1.heap.size := by have := HG.out; omega
      have hg2 : W.heap.size + 1 + 1 + 1 ≠ w1.heap.size := by have := HG.out; omega
      have hg3 : W.heap.size + 1 + 1 + 1 + 1 ≠ w1.heap.size := by have := HG.out; omega
      have e1 : IntKind.u8.wrap (k : Int) = (k : Int) := by rw [IntKind.wrap_u8]; omega
      have e2 : IntKind.u8.wrap (16 + (k : Int)) = 16 + (k : Int) := by rw [IntKind.wrap_u8]; omega
      generalize at0 B k = n at *
      have HC := hide c
      by_cases n1 : n < 16
      · rw [if_pos n1] at hfk
        have n2 : (n : Int) < 16 := by omega
        rw [hfk] at ST3
        clear hfk HF n1 c
        go_wp2
        go_roundw
        case rel =>
          refine ⟨k + 1, by go_num, HC.out, ?_⟩
          have h5 := (H.out.put HG.out k k (16 + k) 16).put3 HG.out k n
          rw [ST1.out, ST2.out, List.set_set, ST3.out] at h5
          exact h5
        case measure => simp [intOf]; omega
      · rw [if_neg n1] at hfk
        have n2 : ¬ (n : Int) < 16 := by omega
        rw [hfk] at ST3
        clear hfk HF n1 c
        go_wp2
        go_roundw
        case rel =>
          refine ⟨k + 1, by go_num, HC.out, ?_⟩
          have h5 := H.out.put HG.out k k (16 + k) 16
          rw [ST1.out, ST2.out, ST3.out] at h5
          exact h5
        case measure => simp [intOf]; omega
    · have c0 : k = 16 := by omega
      subst c0
      have I1 := hide (info16' (fill_length (fun i => i) 16))
      have I2 := hide (info16' (fill_length (fun i => 16 + i) 16))
      have I3 := hide (info16' (fill_length f 16))
      clear HF
      have g0 := H.out.1.c0
      have g1 := H.out.1.c1
      have g2 := H.out.2.1.c0
      have g3 := H.out.2.1.c1
      simp only at g0 g1 g2 g3
      go_wp2_with (refine wpList_load_row rfl 34 _ rfl (W.heap.size + 1 + 1) rfl 34 (cellsB (fillTo (fun i => i) 16)) (0, 0) _ H.out.2.2.1 under16 rfl I1.out ?_)
      refine (C1.out _).mono ?_
      rintro e w2 ⟨rfl, hb⟩
      have H2 := hide (H.out.later hb)
      clear hb g0 g1 g2 g3 H
      obtain ⟨wc, hwc⟩ : ∃ wc, w2.alloc (.cells #[.int .u64 (a0 : Int), .int .u64 (a1 : Int)] 24) = wc := ⟨_, rfl⟩
      have X1 : Hide (VBlk wc w2.heap.size (a0, a1)) := hide (by rw [← hwc]; exact alloc_at rfl)
      have H3 : Hide (SlAt W (a0, a1) (b0, b1) w1.heap.size (fillTo (fun i => i) 16) (fillTo (fun i => 16 + i) 16) (fillTo f 16) B wc) := hide (by rw [← hwc]; exact H2.out.later (below_two _ _))
      have g0 := H2.out.1.c0
      have g1 := H2.out.1.c1
      have g2 := H2.out.2.1.c0
      have g3 := H2.out.2.1.c1
      have l0 : W.heap.size < w2.heap.size := H2.out.1.lt
      have l1 : W.heap.size + 1 < w2.heap.size := H2.out.2.1.lt
      have L3 := H3.out.2.2.2.1
      rw [← hwc] at L3
      have L3 := hide L3
      simp only at g0 g1 g2 g3
      have HWC := hide hwc
      clear hwc H2
      go_wp2_with (refine wpList_load_row rfl 34 _ rfl (W.heap.size + 1 + 1 + 1) rfl 34 (cellsB (fillTo (fun i => 16 + i) 16)) (0, 0) _ L3.out under16 rfl I2.out ?_)
      rw [HWC.out]
      refine (C2.out _).mono ?_
      rintro e w3 ⟨rfl, hb⟩
      have H4 := hide (H3.out.later hb)
      have X2 := hide (X1.out.later hb X1.out.lt)
      clear hb g0 g1 g2 g3 l0 l1 H3 L3 X1 HWC
      obtain ⟨wd, hwd⟩ : ∃ wd, w3.alloc (.cells #[.int .u64 (b0 : Int), .int .u64 (b1 : Int)] 24) = wd := ⟨_, rfl⟩
      have Y1 : Hide (VBlk wd w3.heap.size (b0, b1)) := hide (by rw [← hwd]; exact alloc_at rfl)
      have X3 : Hide (VBlk wd w2.heap.size (a0, a1)) := hide (by rw [← hwd]; exact alloc_past X2.out)
      have H5 : Hide (SlAt W (a0, a1) (b0, b1) w1.heap.size (fillTo (fun i => i) 16) (fillTo (fun i => 16 + i) 16) (fillTo f 16) B wd) := hide (by rw [← hwd]; exact H4.out.later (below_two _ _))
      have g0 := H4.out.1.c0
      have g1 := H4.out.1.c1
      have l0 : W.heap.size < w3.heap.size := H4.out.1.lt
      have L5 := H5.out.2.2.2.2.1
      rw [← hwd] at L5
      have L5 := hide L5
      simp only at g0 g1
      have HWD := hide hwd
      clear hwd H4 X2
      go_wp2_with (refine wpList_load_row rfl 34 _ rfl (W.heap.size + 1 + 1 + 1 + 1) rfl 34 (cellsB (fillTo f 16)) (0, 0) _ L5.out under16 rfl I3.out ?_)
      rw [HWD.out]
      refine (C3.out _).mono ?_
      rintro e w4 ⟨rfl, hb⟩
      have H6 := hide (H5.out.later hb)
      have X4 := hide (X3.out.later hb X3.out.lt)
      have Y2 := hide (Y1.out.later hb Y1.out.lt)
      clear hb g0 g1 l0 H5 L5 X3 Y1 HWD
      obtain ⟨we, hwe⟩ : ∃ we, w4.alloc (.cells #[.int .u64 (p : Int), .int .u64 (q : Int)] 24) = we := ⟨_, rfl⟩
      have Z1 : Hide (VBlk we w4.heap.size (p, q)) := hide (by rw [← hwe]; exact alloc_at rfl)
      have X5 : Hide (VBlk we w2.heap.size (a0, a1)) := hide (by rw [← hwe]; exact alloc_past X4.out)
      have Y3 : Hide (VBlk we w3.heap.size (b0, b1)) := hide (by rw [← hwe]; exact alloc_past Y2.out)
      have H7 : Hide (SlAt W (a0, a1) (b0, b1) w1.heap.size (fillTo (fun i => i) 16) (fillTo (fun i => 16 + i) 16) (fillTo f 16) B we) := hide (by rw [← hwe]; exact H6.out.later (below_two _ _))
      have BE : Hide (Below W.heap.size W we) := hide H7.out.2.2.2.2.2.2
      have VA := hide H7.out.1
      have VB := hide H7.out.2.1
      have HWE := hide hwe
      clear hwe H6 X4 Y2 H7
      have D4 := hide (from_base (wa := we) C4.out)
      have D5 := hide (from_tabs (HT.out.later BE.out) works_calls)
      obtain ⟨I, F, hne, hF, hin⟩ := family we
      have E4 := hide (in_family hF hin D4.out)
      have E5 := hide (in_family hF hin D5.out)
      have hc0 : ∀ i, (F i).cell? ⟨W.heap.size, 0, none⟩ = some (.int .u64 (a0 : Int)) := fun i => (VA.out.later (hF i) VA.out.lt).c0
      have hc1 : ∀ i, (F i).cell? ⟨W.heap.size, 1, none⟩ = some (.int .u64 (a1 : Int)) := fun i => (VA.out.later (hF i) VA.out.lt).c1
      have hc2 : ∀ i, (F i).cell? ⟨W.heap.size + 1, 0, none⟩ = some (.int .u64 (b0 : Int)) := fun i => (VB.out.later (hF i) VB.out.lt).c0
      have hc3 : ∀ i, (F i).cell? ⟨W.heap.size + 1, 1, none⟩ = some (.int .u64 (b1 : Int)) := fun i => (VB.out.later (hF i) VB.out.lt).c1
      have hx0 : ∀ i, (F i).cell? ⟨w2.heap.size, 0, none⟩ = some (.int .u64 (a0 : Int)) := fun i => (X5.out.later (hF i) X5.out.lt).c0
      have hx1 : ∀ i, (F i).cell? ⟨w2.heap.size, 1, none⟩ = some (.int .u64 (a1 : Int)) := fun i => (X5.out.later (hF i) X5.out.lt).c1
      have hy0 : ∀ i, (F i).cell? ⟨w3.heap.size, 0, none⟩ = some (.int .u64 (b0 : Int)) := fun i => (Y3.out.later (hF i) Y3.out.lt).c0
      have hy1 : ∀ i, (F i).cell? ⟨w3.heap.size, 1, none⟩ = some (.int .u64 (b1 : Int)) := fun i => (Y3.out.later (hF i) Y3.out.lt).c1
      have hz0 : ∀ i, (F i).cell? ⟨w4.heap.size, 0, none⟩ = some (.int .u64 (p : Int)) := fun i => (Z1.out.later (hF i) Z1.out.lt).c0
      have hz1 : ∀ i, (F i).cell? ⟨w4.heap.size, 1, none⟩ = some (.int .u64 (q : Int)) := fun i => (Z1.out.later (hF i) Z1.out.lt).c1
      have HF := hide hF
      have IN2 := hide hin
      clear hF hin D4 D5 C1 C2 C3 C4
      go_wp2_with fail
      refine wp_region_class F (by kernel_rfl) (by kernel_rfl) ?_ ?_
      · refine IN2.out _ ?_
        rw [HWE.out]; exact (Below.refl _ _).drew
      repeat (refine wpQuiet_step (fun K hK => ?_); go_simp; first | (refine hK _ ?_; clear hK K) | (apply Exists.intro; refine ⟨fun _ => ?_, hK _ ?_⟩; (first | exact E4.out _ | exact E5.out _); clear hK K))
      refine wpQuiet_nil ?_
      rintro _ ⟨i, rfl⟩
      go_wp2_with fail
      go_ret
      exact ⟨rfl, BE.out.trans ((HF.out i).mono BE.out.size)⟩

theorem lanesShuffles_calls (a : Nat × Nat) (ha : Vok a) (b : Nat × Nat) (hb : Vok b) (W : World) (hT : WTabs W) :
    Calls Tryd.prog 4 #[vecV a, vecV b] W fun e W' => e = .returned (.bool true) ∧ Below W.heap.size W W' := by
  have l1 : Lanes 8 (list16f fun i => i) := lanes_16f fun i hi => by omega
  have l2 : Lanes 8 (list16f fun i => 16 + i) := lanes_16f fun i hi => by omega
  have l3 : Lanes 8 (list16f fun i => if at0 (listN b 8) i < 16 then at0 (listN b 8) i else 16) := lanes_16f fun i hi => by
    show (if at0 (listN b 8) i < 16 then at0 (listN b 8) i else 16) < 2 ^ 8
    split <;> omega
  have C1 := fun W => lshuf_calls a b ha hb _ (list16f_length _) l1 W
  have C2 := fun W => lshuf_calls a b ha hb _ (list16f_length _) l2 W
  have C3 := fun W => lshuf_calls a (0, 0) ha ⟨by decide, by decide⟩ _ (list16f_length _) l3 W
  have C4 := fun W => lswiz_calls a b ha hb W
  have CB := fun W => lbytes_calls b hb W
  rw [shuf_first ha b] at C1
  rw [shuf_second a hb] at C2
  rw [shuf_swiz a b] at C3
  have e1 : ∀ f, list16f f = fillTo f 16 := fun f => by rw [fill_all]; rfl
  rw [e1] at C1 C2 C3
  have hB := listN_length b 8
  obtain ⟨⟨p, q⟩, hF⟩ : ∃ F, swizV a b = F := ⟨_, rfl⟩
  rw [hF] at C3 C4
  obtain ⟨a0, a1⟩ := a
  obtain ⟨b0, b1⟩ := b
  clear hF l1 l2 l3 e1
  generalize listN (b0, b1) 8 = B at *
  unfold arrV at CB C1 C2 C3
  exact shuffles_walk a0 a1 b0 b1 p q B hB _ (hide fun i => rfl) (hide CB) (hide C1) (hide C2) (hide C3) C4 W (hide hT)
end Go.Proofs.YtdhanapmknlobabDoor
