/-
  The walk of LanesSelects.
-/
import Derived.Test.YtdhanapmknlobabDoorLanWorks
import Derived.Test.YtdhanapmknlobabDoorLanBits
set_option linter.unusedVariables false
set_option linter.unusedSimpArgs false
namespace Go.Proofs.YtdhanapmknlobabDoor
open Go.RowKit Lan

set_option maxHeartbeats 4000000 in
theorem selects_walk (a0 a1 b0 b1 c0 c1 s0 s1 x0 x1 y0 y1 n0 n1 z0 z1 m0 m1 : Nat)
    (C1 : Hide (∀ W : World, Calls Tryd.prog 14 #[.int .u8 6, vecV (a0, a1), vecV (b0, b1), vecV (c0, c1)] W fun e W' => e = .returned (vecE ((s0, s1), 0)) ∧ Below W.heap.size W W'))
    (C2 : Hide (∀ W : World, Calls Tryd.prog 14 #[.int .u8 2, vecV (a0, a1), vecV (c0, c1), vecV (c0, c1)] W fun e W' => e = .returned (vecE ((x0, x1), 0)) ∧ Below W.heap.size W W'))
    (C3 : Hide (∀ W : World, Calls Tryd.prog 14 #[.int .u8 3, vecV (b0, b1), vecV (c0, c1), vecV (c0, c1)] W fun e W' => e = .returned (vecE ((y0, y1), 0)) ∧ Below W.heap.size W W'))
    (C4 : Hide (∀ W : World, Calls Tryd.prog 14 #[.int .u8 4, vecV (x0, x1), vecV (y0, y1), vecV (c0, c1)] W fun e W' => e = .returned (vecE ((s0, s1), 0)) ∧ Below W.heap.size W W'))
    (C5 : Hide (∀ W : World, Calls Tryd.prog 14 #[.int .u8 1, vecV (a0, a1), vecV (b0, b1), vecV (c0, c1)] W fun e W' => e = .returned (vecE ((n0, n1), 0)) ∧ Below W.heap.size W W'))
    (C6 : Hide (∀ W : World, Calls Tryd.prog 14 #[.int .u8 2, vecV (a0, a1), vecV (n0, n1), vecV (c0, c1)] W fun e W' => e = .returned (vecE ((z0, z1), 0)) ∧ Below W.heap.size W W'))
    (C7 : Hide (∀ W : World, Calls Tryd.prog 14 #[.int .u8 5, vecV (a0, a1), vecV (n0, n1), vecV (c0, c1)] W fun e W' => e = .returned (vecE ((m0, m1), 0)) ∧ Below W.heap.size W W'))
    (C8 : Hide (∀ W : World, WTabs W → Calls Tryd.prog 15 #[.int .i64 8, .int .u64 255] W fun e W' => e = .returned (vecE ((m0, m1), 0)) ∧ Below W.heap.size W W'))
    (A1 : Hide (∀ W : World, Calls Tryd.prog 16 #[vecV (z0, z1)] W fun e W' => e = .returned (.bool false) ∧ Below W.heap.size W W'))
    (A2 : Hide (∀ W : World, Calls Tryd.prog 16 #[vecV (m0, m1)] W fun e W' => e = .returned (.bool true) ∧ Below W.heap.size W W'))
    (W : World) (HT : Hide (WTabs W)) :
    Calls Tryd.prog 5 #[vecV (a0, a1), vecV (b0, b1), vecV (c0, c1)] W fun e W' => e = .returned (.bool true) ∧ Below W.heap.size W W' := by
  have B0 : Hide (Below W.heap.size W (((W.alloc (.cells #[.int .u64 (a0 : Int), .int .u64 (a1 : Int)] 24)).alloc (.cells #[.int .u64 (b0 : Int), .int .u64 (b1 : Int)] 24)).alloc (.cells #[.int .u64 (c0 : Int), .int .u64 (c1 : Int)] 24))) := hide ((((Below.refl _ _).alloc (Nat.le_refl _) _).alloc (by simp) _).alloc (by simp; omega) _)
  have Va : Hide (VBlk (((W.alloc (.cells #[.int .u64 (a0 : Int), .int .u64 (a1 : Int)] 24)).alloc (.cells #[.int .u64 (b0 : Int), .int .u64 (b1 : Int)] 24)).alloc (.cells #[.int .u64 (c0 : Int), .int .u64 (c1 : Int)] 24)) W.heap.size (a0, a1)) := hide (alloc_past (alloc_past (alloc_at rfl)))
  have Vb : Hide (VBlk (((W.alloc (.cells #[.int .u64 (a0 : Int), .int .u64 (a1 : Int)] 24)).alloc (.cells #[.int .u64 (b0 : Int), .int .u64 (b1 : Int)] 24)).alloc (.cells #[.int .u64 (c0 : Int), .int .u64 (c1 : Int)] 24)) (W.heap.size + 1) (b0, b1)) := hide (alloc_past (alloc_at (by simp)))
  have Vc : Hide (VBlk (((W.alloc (.cells #[.int .u64 (a0 : Int), .int .u64 (a1 : Int)] 24)).alloc (.cells #[.int .u64 (b0 : Int), .int .u64 (b1 : Int)] 24)).alloc (.cells #[.int .u64 (c0 : Int), .int .u64 (c1 : Int)] 24)) (W.heap.size + 1 + 1) (c0, c1)) := hide (alloc_at (by simp))
  unfold vecE at C1 C2 C3 C4 C5 C6 C7 C8
  unfold vecV at C1 C2 C3 C4 C5 C6 C7 C8 A1 A2 ⊢
  simp only at C1 C2 C3 C4 C5 C6 C7 C8 A1 A2 ⊢
  go_enter Tryd.func5, Tryd.ntmps5
  go_wp2_with fail
  refine (C1.out _).mono ?_
  rintro e w1 ⟨rfl, hb⟩
  have B1 := hide (B0.out.trans (hb.mono B0.out.size))
  replace Va := hide (Va.out.later hb Va.out.lt)
  replace Vb := hide (Vb.out.later hb Vb.out.lt)
  replace Vc := hide (Vc.out.later hb Vc.out.lt)
  clear hb
  have ga : W.heap.size < w1.heap.size := Va.out.lt
  have pa : w1.cell? ⟨W.heap.size, 0, none⟩ = some (.int .u64 (a0 : Int)) := Va.out.c0
  have qa : w1.cell? ⟨W.heap.size, 1, none⟩ = some (.int .u64 (a1 : Int)) := Va.out.c1
  have gc : W.heap.size + 1 + 1 < w1.heap.size := Vc.out.lt
  have pc : w1.cell? ⟨W.heap.size + 1 + 1, 0, none⟩ = some (.int .u64 (c0 : Int)) := Vc.out.c0
  have qc : w1.cell? ⟨W.heap.size + 1 + 1, 1, none⟩ = some (.int .u64 (c1 : Int)) := Vc.out.c1
  go_wp2_with fail
  refine (C2.out _).mono ?_
  rintro e w2 ⟨rfl, hb⟩
  have B2 := hide ((B1.out.alloc B1.out.size _).trans (hb.mono (by simp; have := B1.out.size; omega)))
  replace Va : Hide (VBlk w2 (W.heap.size) (a0, a1)) := hide (VBlk.later (alloc_past Va.out) hb (by simp; have := Va.out.lt; omega))
  replace Vb : Hide (VBlk w2 (W.heap.size + 1) (b0, b1)) := hide (VBlk.later (alloc_past Vb.out) hb (by simp; have := Vb.out.lt; omega))
  replace Vc : Hide (VBlk w2 (W.heap.size + 1 + 1) (c0, c1)) := hide (VBlk.later (alloc_past Vc.out) hb (by simp; have := Vc.out.lt; omega))
  have Vs : Hide (VBlk w2 w1.heap.size (s0, s1)) := hide (VBlk.later (alloc_at rfl) hb (by simp))
  clear hb ga pa qa gc pc qc
  have gb : W.heap.size + 1 < w2.heap.size := Vb.out.lt
  have pb : w2.cell? ⟨W.heap.size + 1, 0, none⟩ = some (.int .u64 (b0 : Int)) := Vb.out.c0
  have qb : w2.cell? ⟨W.heap.size + 1, 1, none⟩ = some (.int .u64 (b1 : Int)) := Vb.out.c1
  have gc : W.heap.size + 1 + 1 < w2.heap.size := Vc.out.lt
  have pc : w2.cell? ⟨W.heap.size + 1 + 1, 0, none⟩ = some (.int .u64 (c0 : Int)) := Vc.out.c0
  have qc : w2.cell? ⟨W.heap.size + 1 + 1, 1, none⟩ = some (.int .u64 (c1 : Int)) := Vc.out.c1
  go_wp2_with fail
  refine (C3.out _).mono ?_
  rintro e w3 ⟨rfl, hb⟩
  have B3 := hide ((B2.out.alloc B2.out.size _).trans (hb.mono (by simp; have := B2.out.size; omega)))
  replace Va : Hide (VBlk w3 (W.heap.size) (a0, a1)) := hide (VBlk.later (alloc_past Va.out) hb (by simp; have := Va.out.lt; omega))
  replace Vb : Hide (VBlk w3 (W.heap.size + 1) (b0, b1)) := hide (VBlk.later (alloc_past Vb.out) hb (by simp; have := Vb.out.lt; omega))
  replace Vc : Hide (VBlk w3 (W.heap.size + 1 + 1) (c0, c1)) := hide (VBlk.later (alloc_past Vc.out) hb (by simp; have := Vc.out.lt; omega))
  replace Vs : Hide (VBlk w3 (w1.heap.size) (s0, s1)) := hide (VBlk.later (alloc_past Vs.out) hb (by simp; have := Vs.out.lt; omega))
  have Vx : Hide (VBlk w3 w2.heap.size (x0, x1)) := hide (VBlk.later (alloc_at rfl) hb (by simp))
  clear hb gb pb qb gc pc qc
  have gc : W.heap.size + 1 + 1 < w3.heap.size := Vc.out.lt
  have pc : w3.cell? ⟨W.heap.size + 1 + 1, 0, none⟩ = some (.int .u64 (c0 : Int)) := Vc.out.c0
  have qc : w3.cell? ⟨W.heap.size + 1 + 1, 1, none⟩ = some (.int .u64 (c1 : Int)) := Vc.out.c1
  have gx : w2.heap.size < w3.heap.size := Vx.out.lt
  have px : w3.cell? ⟨w2.heap.size, 0, none⟩ = some (.int .u64 (x0 : Int)) := Vx.out.c0
  have qx : w3.cell? ⟨w2.heap.size, 1, none⟩ = some (.int .u64 (x1 : Int)) := Vx.out.c1
  go_wp2_with fail
  refine (C4.out _).mono ?_
  rintro e w4 ⟨rfl, hb⟩
  have B4 := hide ((B3.out.alloc B3.out.size _).trans (hb.mono (by simp; have := B3.out.size; omega)))
  replace Va : Hide (VBlk w4 (W.heap.size) (a0, a1)) := hide (VBlk.later (alloc_past Va.out) hb (by simp; have := Va.out.lt; omega))
  replace Vb : Hide (VBlk w4 (W.heap.size + 1) (b0, b1)) := hide (VBlk.later (alloc_past Vb.out) hb (by simp; have := Vb.out.lt; omega))
  replace Vc : Hide (VBlk w4 (W.heap.size + 1 + 1) (c0, c1)) := hide (VBlk.later (alloc_past Vc.out) hb (by simp; have := Vc.out.lt; omega))
  replace Vs : Hide (VBlk w4 (w1.heap.size) (s0, s1)) := hide (VBlk.later (alloc_past Vs.out) hb (by simp; have := Vs.out.lt; omega))
  replace Vx : Hide (VBlk w4 (w2.heap.size) (x0, x1)) := hide (VBlk.later (alloc_past Vx.out) hb (by simp; have := Vx.out.lt; omega))
  have Vy : Hide (VBlk w4 w3.heap.size (y0, y1)) := hide (VBlk.later (alloc_at rfl) hb (by simp))
  clear hb gc pc qc gx px qx
  have ga : W.heap.size < w4.heap.size := Va.out.lt
  have pa : w4.cell? ⟨W.heap.size, 0, none⟩ = some (.int .u64 (a0 : Int)) := Va.out.c0
  have qa : w4.cell? ⟨W.heap.size, 1, none⟩ = some (.int .u64 (a1 : Int)) := Va.out.c1
  have gb : W.heap.size + 1 < w4.heap.size := Vb.out.lt
  have pb : w4.cell? ⟨W.heap.size + 1, 0, none⟩ = some (.int .u64 (b0 : Int)) := Vb.out.c0
  have qb : w4.cell? ⟨W.heap.size + 1, 1, none⟩ = some (.int .u64 (b1 : Int)) := Vb.out.c1
  have gc : W.heap.size + 1 + 1 < w4.heap.size := Vc.out.lt
  have pc : w4.cell? ⟨W.heap.size + 1 + 1, 0, none⟩ = some (.int .u64 (c0 : Int)) := Vc.out.c0
  have qc : w4.cell? ⟨W.heap.size + 1 + 1, 1, none⟩ = some (.int .u64 (c1 : Int)) := Vc.out.c1
  go_wp2_with fail
  refine (C5.out _).mono ?_
  rintro e w5 ⟨rfl, hb⟩
  have B5 := hide ((B4.out.alloc B4.out.size _).trans (hb.mono (by simp; have := B4.out.size; omega)))
  replace Va : Hide (VBlk w5 (W.heap.size) (a0, a1)) := hide (VBlk.later (alloc_past Va.out) hb (by simp; have := Va.out.lt; omega))
  replace Vb : Hide (VBlk w5 (W.heap.size + 1) (b0, b1)) := hide (VBlk.later (alloc_past Vb.out) hb (by simp; have := Vb.out.lt; omega))
  replace Vc : Hide (VBlk w5 (W.heap.size + 1 + 1) (c0, c1)) := hide (VBlk.later (alloc_past Vc.out) hb (by simp; have := Vc.out.lt; omega))
  replace Vs : Hide (VBlk w5 (w1.heap.size) (s0, s1)) := hide (VBlk.later (alloc_past Vs.out) hb (by simp; have := Vs.out.lt; omega))
  replace Vx : Hide (VBlk w5 (w2.heap.size) (x0, x1)) := hide (VBlk.later (alloc_past Vx.out) hb (by simp; have := Vx.out.lt; omega))
  replace Vy : Hide (VBlk w5 (w3.heap.size) (y0, y1)) := hide (VBlk.later (alloc_past Vy.out) hb (by simp; have := Vy.out.lt; omega))
  have Vo : Hide (VBlk w5 w4.heap.size (s0, s1)) := hide (VBlk.later (alloc_at rfl) hb (by simp))
  clear hb ga pa qa gb pb qb gc pc qc
  have ga : W.heap.size < w5.heap.size := Va.out.lt
  have pa : w5.cell? ⟨W.heap.size, 0, none⟩ = some (.int .u64 (a0 : Int)) := Va.out.c0
  have qa : w5.cell? ⟨W.heap.size, 1, none⟩ = some (.int .u64 (a1 : Int)) := Va.out.c1
  have gc : W.heap.size + 1 + 1 < w5.heap.size := Vc.out.lt
  have pc : w5.cell? ⟨W.heap.size + 1 + 1, 0, none⟩ = some (.int .u64 (c0 : Int)) := Vc.out.c0
  have qc : w5.cell? ⟨W.heap.size + 1 + 1, 1, none⟩ = some (.int .u64 (c1 : Int)) := Vc.out.c1
  go_wp2_with fail
  refine (C6.out _).mono ?_
  rintro e w6 ⟨rfl, hb⟩
  have B6 := hide ((B5.out.alloc B5.out.size _).trans (hb.mono (by simp; have := B5.out.size; omega)))
  replace Va : Hide (VBlk w6 (W.heap.size) (a0, a1)) := hide (VBlk.later (alloc_past Va.out) hb (by simp; have := Va.out.lt; omega))
  replace Vb : Hide (VBlk w6 (W.heap.size + 1) (b0, b1)) := hide (VBlk.later (alloc_past Vb.out) hb (by simp; have := Vb.out.lt; omega))
  replace Vc : Hide (VBlk w6 (W.heap.size + 1 + 1) (c0, c1)) := hide (VBlk.later (alloc_past Vc.out) hb (by simp; have := Vc.out.lt; omega))
  replace Vs : Hide (VBlk w6 (w1.heap.size) (s0, s1)) := hide (VBlk.later (alloc_past Vs.out) hb (by simp; have := Vs.out.lt; omega))
  replace Vx : Hide (VBlk w6 (w2.heap.size) (x0, x1)) := hide (VBlk.later (alloc_past Vx.out) hb (by simp; have := Vx.out.lt; omega))
  replace Vy : Hide (VBlk w6 (w3.heap.size) (y0, y1)) := hide (VBlk.later (alloc_past Vy.out) hb (by simp; have := Vy.out.lt; omega))
  replace Vo : Hide (VBlk w6 (w4.heap.size) (s0, s1)) := hide (VBlk.later (alloc_past Vo.out) hb (by simp; have := Vo.out.lt; omega))
  have Vn : Hide (VBlk w6 w5.heap.size (n0, n1)) := hide (VBlk.later (alloc_at rfl) hb (by simp))
  clear hb ga pa qa gc pc qc
  have ga : W.heap.size < w6.heap.size := Va.out.lt
  have pa : w6.cell? ⟨W.heap.size, 0, none⟩ = some (.int .u64 (a0 : Int)) := Va.out.c0
  have qa : w6.cell? ⟨W.heap.size, 1, none⟩ = some (.int .u64 (a1 : Int)) := Va.out.c1
  have gc : W.heap.size + 1 + 1 < w6.heap.size := Vc.out.lt
  have pc : w6.cell? ⟨W.heap.size + 1 + 1, 0, none⟩ = some (.int .u64 (c0 : Int)) := Vc.out.c0
  have qc : w6.cell? ⟨W.heap.size + 1 + 1, 1, none⟩ = some (.int .u64 (c1 : Int)) := Vc.out.c1
  have gn : w5.heap.size < w6.heap.size := Vn.out.lt
  have pn : w6.cell? ⟨w5.heap.size, 0, none⟩ = some (.int .u64 (n0 : Int)) := Vn.out.c0
  have qn : w6.cell? ⟨w5.heap.size, 1, none⟩ = some (.int .u64 (n1 : Int)) := Vn.out.c1
  go_wp2_with fail
  refine (C7.out _).mono ?_
  rintro e w7 ⟨rfl, hb⟩
  have B7 := hide ((B6.out.alloc B6.out.size _).trans (hb.mono (by simp; have := B6.out.size; omega)))
  replace Va : Hide (VBlk w7 (W.heap.size) (a0, a1)) := hide (VBlk.later (alloc_past Va.out) hb (by simp; have := Va.out.lt; omega))
  replace Vb : Hide (VBlk w7 (W.heap.size + 1) (b0, b1)) := hide (VBlk.later (alloc_past Vb.out) hb (by simp; have := Vb.out.lt; omega))
  replace Vc : Hide (VBlk w7 (W.heap.size + 1 + 1) (c0, c1)) := hide (VBlk.later (alloc_past Vc.out) hb (by simp; have := Vc.out.lt; omega))
  replace Vs : Hide (VBlk w7 (w1.heap.size) (s0, s1)) := hide (VBlk.later (alloc_past Vs.out) hb (by simp; have := Vs.out.lt; omega))
  replace Vx : Hide (VBlk w7 (w2.heap.size) (x0, x1)) := hide (VBlk.later (alloc_past Vx.out) hb (by simp; have := Vx.out.lt; omega))
  replace Vy : Hide (VBlk w7 (w3.heap.size) (y0, y1)) := hide (VBlk.later (alloc_past Vy.out) hb (by simp; have := Vy.out.lt; omega))
  replace Vo : Hide (VBlk w7 (w4.heap.size) (s0, s1)) := hide (VBlk.later (alloc_past Vo.out) hb (by simp; have := Vo.out.lt; omega))
  replace Vn : Hide (VBlk w7 (w5.heap.size) (n0, n1)) := hide (VBlk.later (alloc_past Vn.out) hb (by simp; have := Vn.out.lt; omega))
  have Vz : Hide (VBlk w7 w6.heap.size (z0, z1)) := hide (VBlk.later (alloc_at rfl) hb (by simp))
  clear hb ga pa qa gc pc qc gn pn qn
  go_wp2_with fail
  refine (C8.out _ (HT.out.later (B7.out.alloc B7.out.size _))).mono ?_
  rintro e w8 ⟨rfl, hb⟩
  have B8 := hide ((B7.out.alloc B7.out.size _).trans (hb.mono (by simp; have := B7.out.size; omega)))
  replace Va : Hide (VBlk w8 (W.heap.size) (a0, a1)) := hide (VBlk.later (alloc_past Va.out) hb (by simp; have := Va.out.lt; omega))
  replace Vb : Hide (VBlk w8 (W.heap.size + 1) (b0, b1)) := hide (VBlk.later (alloc_past Vb.out) hb (by simp; have := Vb.out.lt; omega))
  replace Vc : Hide (VBlk w8 (W.heap.size + 1 + 1) (c0, c1)) := hide (VBlk.later (alloc_past Vc.out) hb (by simp; have := Vc.out.lt; omega))
  replace Vs : Hide (VBlk w8 (w1.heap.size) (s0, s1)) := hide (VBlk.later (alloc_past Vs.out) hb (by simp; have := Vs.out.lt; omega))
  replace Vx : Hide (VBlk w8 (w2.heap.size) (x0, x1)) := hide (VBlk.later (alloc_past Vx.out) hb (by simp; have := Vx.out.lt; omega))
  replace Vy : Hide (VBlk w8 (w3.heap.size) (y0, y1)) := hide (VBlk.later (alloc_past Vy.out) hb (by simp; have := Vy.out.lt; omega))
  replace Vo : Hide (VBlk w8 (w4.heap.size) (s0, s1)) := hide (VBlk.later (alloc_past Vo.out) hb (by simp; have := Vo.out.lt; omega))
  replace Vn : Hide (VBlk w8 (w5.heap.size) (n0, n1)) := hide (VBlk.later (alloc_past Vn.out) hb (by simp; have := Vn.out.lt; omega))
  replace Vz : Hide (VBlk w8 (w6.heap.size) (z0, z1)) := hide (VBlk.later (alloc_past Vz.out) hb (by simp; have := Vz.out.lt; omega))
  have Vm : Hide (VBlk w8 w7.heap.size (m0, m1)) := hide (VBlk.later (alloc_at rfl) hb (by simp))
  clear hb
  have gs : w1.heap.size < w8.heap.size := Vs.out.lt
  have ps : w8.cell? ⟨w1.heap.size, 0, none⟩ = some (.int .u64 (s0 : Int)) := Vs.out.c0
  have qs : w8.cell? ⟨w1.heap.size, 1, none⟩ = some (.int .u64 (s1 : Int)) := Vs.out.c1
  have go : w4.heap.size < w8.heap.size := Vo.out.lt
  have po : w8.cell? ⟨w4.heap.size, 0, none⟩ = some (.int .u64 (s0 : Int)) := Vo.out.c0
  have qo : w8.cell? ⟨w4.heap.size, 1, none⟩ = some (.int .u64 (s1 : Int)) := Vo.out.c1
  have gz : w6.heap.size < w8.heap.size := Vz.out.lt
  have pz : w8.cell? ⟨w6.heap.size, 0, none⟩ = some (.int .u64 (z0 : Int)) := Vz.out.c0
  have qz : w8.cell? ⟨w6.heap.size, 1, none⟩ = some (.int .u64 (z1 : Int)) := Vz.out.c1
  have gm : w7.heap.size < w8.heap.size := Vm.out.lt
  have pm : w8.cell? ⟨w7.heap.size, 0, none⟩ = some (.int .u64 (m0 : Int)) := Vm.out.c0
  have qm : w8.cell? ⟨w7.heap.size, 1, none⟩ = some (.int .u64 (m1 : Int)) := Vm.out.c1
  go_wp2_with fail
  refine (A1.out _).mono ?_
  rintro e w9 ⟨rfl, hb⟩
  have B9 := hide ((B8.out.alloc B8.out.size _).trans (hb.mono (by simp; have := B8.out.size; omega)))
  replace Vm : Hide (VBlk w9 (w7.heap.size) (m0, m1)) := hide (VBlk.later (alloc_past Vm.out) hb (by simp; have := Vm.out.lt; omega))
  have Vall : Hide (VBlk w9 w8.heap.size (m0, m1)) := hide (VBlk.later (alloc_at rfl) hb (by simp))
  clear hb gs ps qs go po qo gz pz qz gm pm qm
  have pm : w9.cell? ⟨w7.heap.size, 0, none⟩ = some (.int .u64 (m0 : Int)) := Vm.out.c0
  have qm : w9.cell? ⟨w7.heap.size, 1, none⟩ = some (.int .u64 (m1 : Int)) := Vm.out.c1
  have pl : w9.cell? ⟨w8.heap.size, 0, none⟩ = some (.int .u64 (m0 : Int)) := Vall.out.c0
  have ql : w9.cell? ⟨w8.heap.size, 1, none⟩ = some (.int .u64 (m1 : Int)) := Vall.out.c1
  go_wp2_with fail
  refine (A2.out _).mono ?_
  rintro e w10 ⟨rfl, hb⟩
  have B10 := hide (B9.out.trans (hb.mono B9.out.size))
  clear hb pm qm pl ql
  go_wp2_with fail
  refine (works_calls _ (HT.out.later B10.out)).mono ?_
  rintro e w11 ⟨rfl, hb⟩
  have B11 := hide (B10.out.trans (hb.mono B10.out.size))
  clear hb
  go_wp2
  go_ret
  exact ⟨rfl, B11.out⟩

theorem and_not {a : Nat} (h : a < 2 ^ 64) : a &&& (18446744073709551615 - a) = 0 := by
  apply Nat.eq_of_testBit_eq
  intro k
  rw [Nat.testBit_and, show (18446744073709551615 : Nat) - a = 2 ^ 64 - (a + 1) by omega, Nat.testBit_two_pow_sub_succ h]
  simp
  exact fun h1 _ => h1
theorem xor_not {a : Nat} (h : a < 2 ^ 64) : a ^^^ (18446744073709551615 - a) = 18446744073709551615 := by
  apply Nat.eq_of_testBit_eq
  intro k
  have e2 : (18446744073709551615 : Nat).testBit k = decide (k < 64) := Nat.testBit_two_pow_sub_one 64 k
  rw [Nat.testBit_xor, show (18446744073709551615 : Nat) - a = 2 ^ 64 - (a + 1) by omega, Nat.testBit_two_pow_sub_succ h, e2]
  by_cases c : k < 64
  · simp [c]
  · simp [c, Nat.testBit_lt_two_pow (Nat.lt_of_lt_of_le h (Nat.pow_le_pow_right (by decide) (show 64 ≤ k by omega)))]
theorem sel_splat : splatV 8 255 = ((18446744073709551615, 18446744073709551615), 0) := by decide

theorem bitW_lt {op a b c : Nat} (ha : a < 2 ^ 64) (hb : b < 2 ^ 64) (hc : c < 2 ^ 64) : bitW op a b c < 2 ^ 64 := by
  unfold bitW
  split
  · omega
  · exact Nat.lt_of_le_of_lt Nat.and_le_left ha
  · exact Nat.lt_of_le_of_lt Nat.and_le_left ha
  · exact Nat.or_lt_two_pow ha hb
  · exact Nat.xor_lt_two_pow ha hb
  · exact Nat.or_lt_two_pow (Nat.lt_of_le_of_lt Nat.and_le_left ha) (Nat.lt_of_le_of_lt Nat.and_le_left hb)
theorem bitsN_ok {op : Nat} {a b c : Nat × Nat} (ha : Vok a) (hb : Vok b) (hc : Vok c) : Vok (bitsN op a b c) := ⟨bitW_lt ha.1 hb.1 hc.1, bitW_lt ha.2 hb.2 hc.2⟩

theorem lanesSelects_calls (a : Nat × Nat) (ha : Vok a) (b : Nat × Nat) (hb : Vok b) (c : Nat × Nat) (hc : Vok c) (W : World) (hT : WTabs W) :
    Calls Tryd.prog 5 #[vecV a, vecV b, vecV c] W fun e W' => e = .returned (.bool true) ∧ Below W.heap.size W W' := by
  have hx : Vok (bitsN 2 a c c) := bitsN_ok ha hc hc
  have hy : Vok (bitsN 3 b c c) := bitsN_ok hb hc hc
  have hn : Vok (bitsN 1 a b c) := bitsN_ok ha hb hc
  have e1 : bitsV 2 a (bitsN 1 a b c) c = ((0, 0), 0) := by
    show (bitsN 2 a (bitsN 1 a b c) c, (0 : Int)) = _
    show ((a.1 &&& (18446744073709551615 - a.1), a.2 &&& (18446744073709551615 - a.2)), (0 : Int)) = _
    rw [and_not ha.1, and_not ha.2]
  have e2 : bitsV 5 a (bitsN 1 a b c) c = ((18446744073709551615, 18446744073709551615), 0) := by
    show ((a.1 ^^^ (18446744073709551615 - a.1), a.2 ^^^ (18446744073709551615 - a.2)), (0 : Int)) = _
    rw [xor_not ha.1, xor_not ha.2]
  have c6 := fun W => lbits_calls 2 a (bitsN 1 a b c) c ha hn hc W
  have c7 := fun W => lbits_calls 5 a (bitsN 1 a b c) c ha hn hc W
  have c8 := fun W hT => lsplat_calls 8 255 W hT
  rw [e1] at c6
  rw [e2] at c7
  rw [sel_splat] at c8
  exact selects_walk a.1 a.2 b.1 b.2 c.1 c.2 (bitsN 6 a b c).1 (bitsN 6 a b c).2 (bitsN 2 a c c).1 (bitsN 2 a c c).2 (bitsN 3 b c c).1 (bitsN 3 b c c).2 (bitsN 1 a b c).1 (bitsN 1 a b c).2 0 0 18446744073709551615 18446744073709551615
    (hide fun W => lbits_calls 6 a b c ha hb hc W) (hide fun W => lbits_calls 2 a c c ha hc hc W) (hide fun W => lbits_calls 3 b c c hb hc hc W) (hide fun W => lbits_calls 4 (bitsN 2 a c c) (bitsN 3 b c c) c hx hy hc W) (hide fun W => lbits_calls 1 a b c ha hb hc W)
    (hide c6) (hide c7) (hide c8) (hide fun W => lany_calls (0, 0) W) (hide fun W => lany_calls (18446744073709551615, 18446744073709551615) W) W (hide hT)
end Go.Proofs.YtdhanapmknlobabDoor
