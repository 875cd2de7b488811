/-
  vfloats' each, its function values, and the outer walks over what both and each answer (gen8ops.py wrote it).
-/
import Derived.Test.YtpeckiaimellmaaDoorVfBothP
set_option linter.unusedVariables false
set_option linter.unusedSimpArgs false
namespace Go.Proofs.YtpeckiaimellmaaDoor
open Go.RowKit Lan

theorem cell_of8 {w : World} {g : Nat} {v : Value} {t : TypeId} {fr : Nat × Nat} (h : w.heap[g]? = some (.cells #[v] t fr)) : w.cell? ⟨g, 0, none⟩ = some v := by simp [World.cell?, h]
theorem feach1_enters : Enters 77 := enters_of Tryd.func77 (by kernel_rfl) rfl
theorem ftwo1_enters : Enters 27 := enters_of Tryd.func27 (by kernel_rfl) rfl
theorem fone1_enters : Enters 35 := enters_of Tryd.func35 (by kernel_rfl) rfl
theorem fthan1_enters : Enters 38 := enters_of Tryd.func38 (by kernel_rfl) rfl
theorem fheld1_enters : Enters 42 := enters_of Tryd.func42 (by kernel_rfl) rfl
theorem fflt1_enters : Enters 45 := enters_of Tryd.func45 (by kernel_rfl) rfl
theorem fprom_enters : Enters 47 := enters_of Tryd.func47 (by kernel_rfl) rfl
theorem fdem_enters : Enters 49 := enters_of Tryd.func49 (by kernel_rfl) rfl

set_option maxHeartbeats 1000000 in
/-- each's function value: the one that it was given, at the first word. -/
theorem feach1_calls (g : Nat) (lb : Array Value) (eg : Enters g) (x y n : Nat) (E : Int) (q : Nat) (W : World) (hq : W.cell? ⟨q, 0, none⟩ = some (.func (.func g) #[] lb))
    (hF : Calls Tryd.prog g (#[.int .u64 (x : Int)] ++ lb) W fun e W'' => e = .returned (.tuple #[.int .u64 (n : Int), .int .i64 E]) ∧ Below W.heap.size W W'') :
    Calls Tryd.prog 77 #[.int .u64 (x : Int), .int .u64 (y : Int), .pointer (some ⟨q, 0, none⟩)] W fun e W'' => e = .returned (.tuple #[.int .u64 (n : Int), .int .i64 E]) ∧ Below W.heap.size W W'' := by
  have CF := hide hF
  unfold Enters at eg
  clear hF
  go_enter Tryd.func77, Tryd.ntmps77
  go_wp2_with (go_at_fn g; refine CF.out.mono ?_; rintro e w2 ⟨rfl, hb⟩)
  refine bodyPost_ret (v := .tuple #[.int .u64 (n : Int), .int .i64 E]) (by simp [results, Tryd.results77, go_sem]) rfl ?_
  exact ⟨rfl, by assumption⟩

set_option maxHeartbeats 1000000 in
theorem feach_r (fr to : Int) (a : Nat × Nat) (g : Nat) (lb : Array Value) (r : (Nat × Nat) × Int) (W : World)
    (hB : ∀ (W' : World) (q : Nat), Below W.heap.size W W' → W'.cell? ⟨q, 0, none⟩ = some (.func (.func g) #[] lb) →
      Calls Tryd.prog 26 #[.int .i64 fr, .int .i64 to, vecV a, vecV a, .func (.func 77) #[] #[.pointer (some ⟨q, 0, none⟩)]] W' fun e W'' => e = .returned (vecE r) ∧ Below W'.heap.size W' W'') :
    Calls Tryd.prog 34 #[.int .i64 fr, .int .i64 to, vecV a, .func (.func g) #[] lb] W fun e W' => e = .returned (vecE r) ∧ Below W.heap.size W W' := by
  obtain ⟨wa, hwa⟩ : ∃ wa, ((W.alloc (.cells #[.int .u64 (a.1 : Int), .int .u64 (a.2 : Int)] 25)).alloc (.cells #[.func (.func g) #[] lb] 51)).alloc (.cells #[.int .u64 0, .int .u64 0] 25) = wa := ⟨_, rfl⟩
  have BA : Hide (Below W.heap.size W wa) := hide (by rw [← hwa]; exact ((below_two _ _).alloc (by simp) _).alloc (by simp; omega) _)
  have VA : Hide (VBlk wa (W.heap.size + 1 + 1) (0, 0)) := hide (by rw [← hwa]; exact alloc_at (by simp))
  have Va : VBlk wa W.heap.size a := by rw [← hwa]; exact alloc_past (alloc_past (alloc_at rfl))
  have CA : wa.cell? ⟨W.heap.size + 1, 0, none⟩ = some (.func (.func g) #[] lb) := by rw [← hwa]; exact cell_of8 (alloc_past (alloc_at (by simp)))
  have CB := hide (hB wa (W.heap.size + 1) BA.out CA)
  have HWA := hide hwa
  clear hB hwa CA
  obtain ⟨a0, a1⟩ := a
  have ac0 := Va.c0
  have ac1 := Va.c1
  clear Va
  obtain ⟨⟨rp, rq⟩, re⟩ := r
  unfold vecE at CB ⊢
  unfold vecV at *
  simp only at *
  have M := @Instr.makeFunc
  go_enter Tryd.func34, Tryd.ntmps34
  go_wp2_with fail
  rw [HWA.out]
  go_wp2_with fail
  refine CB.out.mono ?_
  rintro e w2 ⟨rfl, hb⟩
  have K1 : Hide (VBlk w2 (W.heap.size + 1 + 1) (0, 0)) := hide (VA.out.later hb VA.out.lt)
  have K2 : Hide (Below W.heap.size W w2) := hide (BA.out.trans (hb.mono BA.out.size))
  have g0 := K1.out.c0
  have g1 := K1.out.c1
  have z0 := K1.out.frozen 0
  have z1 := K1.out.frozen 1
  clear hb
  go_wp2
  refine bodyPost_ret (v := .tuple #[.agg #[.int .u64 (rp : Int), .int .u64 (rq : Int)], .int .i64 re]) ((K1.out.set2 rp rq).result2 (by rfl) _ rfl rfl) rfl ?_
  exact ⟨rfl, (K2.out.setCell (by simp; try omega) _).setCell (by simp; try omega) _⟩

set_option maxHeartbeats 1000000 in
theorem ftwo_r (op : Int) (w : Int) (a : Nat × Nat) (b : Nat × Nat) (r : (Nat × Nat) × Int) (W : World)
    (hB : ∀ (W' : World) (q0 q1 : Nat), Below W.heap.size W W' → W'.cell? ⟨q0, 0, none⟩ = some (.int .u8 op) → W'.cell? ⟨q1, 0, none⟩ = some (.int .i64 w) →
      Calls Tryd.prog 26 #[.int .i64 w, .int .i64 w, vecV a, vecV b, .func (.func 27) #[] #[.pointer (some ⟨q0, 0, none⟩), .pointer (some ⟨q1, 0, none⟩)]] W' fun e W'' => e = .returned (vecE r) ∧ Below W'.heap.size W' W'') :
    Calls Tryd.prog 9 #[.int .u8 op, .int .i64 w, vecV a, vecV b] W fun e W' => e = .returned (vecE r) ∧ Below W.heap.size W W' := by
  obtain ⟨wa, hwa⟩ : ∃ wa, (((((W.alloc (.cells #[.int .u8 op] 22)).alloc (.cells #[.int .i64 w] 3)).alloc (.cells #[.int .u64 (a.1 : Int), .int .u64 (a.2 : Int)] 25)).alloc (.cells #[.int .u64 (b.1 : Int), .int .u64 (b.2 : Int)] 25)).alloc (.cells #[.int .u64 0, .int .u64 0] 25)) = wa := ⟨_, rfl⟩
  have B0 : Below W.heap.size W W := Below.refl _ _
  have B1 := B0.alloc B0.size (.cells #[.int .u8 op] 22)
  have B2 := B1.alloc B1.size (.cells #[.int .i64 w] 3)
  have B3 := B2.alloc B2.size (.cells #[.int .u64 (a.1 : Int), .int .u64 (a.2 : Int)] 25)
  have B4 := B3.alloc B3.size (.cells #[.int .u64 (b.1 : Int), .int .u64 (b.2 : Int)] 25)
  have B5 := B4.alloc B4.size (.cells #[.int .u64 0, .int .u64 0] 25)
  have BA : Hide (Below W.heap.size W wa) := hide (by rw [← hwa]; exact B5)
  have Cop : wa.cell? ⟨W.heap.size, 0, none⟩ = some (.int .u8 op) := by rw [← hwa]; exact cell_of8 (alloc_past (alloc_past (alloc_past (alloc_past (alloc_at (by simp))))))
  have Cw : wa.cell? ⟨W.heap.size + 1, 0, none⟩ = some (.int .i64 w) := by rw [← hwa]; exact cell_of8 (alloc_past (alloc_past (alloc_past (alloc_at (by simp)))))
  have Va : VBlk wa (W.heap.size + 2) a := by rw [← hwa]; exact alloc_past (alloc_past (alloc_at (by simp)))
  have Vb : VBlk wa (W.heap.size + 3) b := by rw [← hwa]; exact alloc_past (alloc_at (by simp))
  have VZ : Hide (VBlk wa (W.heap.size + 4) (0, 0)) := hide (by rw [← hwa]; exact alloc_at (by simp))
  have HWA := hide hwa
  clear hwa B0 B1 B2 B3 B4 B5
  have CB := hide (hB wa W.heap.size (W.heap.size + 1) BA.out Cop Cw)
  clear hB
  obtain ⟨a0, a1⟩ := a
  have ac0 := Va.c0
  have ac1 := Va.c1
  clear Va
  obtain ⟨b0, b1⟩ := b
  have bc0 := Vb.c0
  have bc1 := Vb.c1
  clear Vb
  obtain ⟨⟨rp, rq⟩, re⟩ := r
  unfold vecE at CB ⊢
  unfold vecV at *
  simp only at *
  go_enter Tryd.func9, Tryd.ntmps9
  go_wp2_with fail
  rw [HWA.out]
  go_wp2_with fail
  refine CB.out.mono ?_
  rintro e w2 ⟨rfl, hb⟩
  have K1 : Hide (VBlk w2 (W.heap.size + 4) (0, 0)) := hide (VZ.out.later hb VZ.out.lt)
  have K2 : Hide (Below W.heap.size W w2) := hide (BA.out.trans (hb.mono BA.out.size))
  have g0 := K1.out.c0
  have g1 := K1.out.c1
  have z0 := K1.out.frozen 0
  have z1 := K1.out.frozen 1
  clear hb
  go_wp2
  refine bodyPost_ret (v := .tuple #[.agg #[.int .u64 (rp : Int), .int .u64 (rq : Int)], .int .i64 re]) ((K1.out.set2 rp rq).result2 (by rfl) _ rfl rfl) rfl ?_
  exact ⟨rfl, (K2.out.setCell (by simp; try omega) _).setCell (by simp; try omega) _⟩

set_option maxHeartbeats 1000000 in
theorem fthan_r (op : Int) (w : Int) (a : Nat × Nat) (b : Nat × Nat) (r : (Nat × Nat) × Int) (W : World)
    (hB : ∀ (W' : World) (q0 q1 : Nat), Below W.heap.size W W' → W'.cell? ⟨q0, 0, none⟩ = some (.int .u8 op) → W'.cell? ⟨q1, 0, none⟩ = some (.int .i64 w) →
      Calls Tryd.prog 26 #[.int .i64 w, .int .i64 w, vecV a, vecV b, .func (.func 38) #[] #[.pointer (some ⟨q0, 0, none⟩), .pointer (some ⟨q1, 0, none⟩)]] W' fun e W'' => e = .returned (vecE r) ∧ Below W'.heap.size W' W'') :
    Calls Tryd.prog 14 #[.int .u8 op, .int .i64 w, vecV a, vecV b] W fun e W' => e = .returned (vecE r) ∧ Below W.heap.size W W' := by
  obtain ⟨wa, hwa⟩ : ∃ wa, (((((W.alloc (.cells #[.int .u8 op] 22)).alloc (.cells #[.int .i64 w] 3)).alloc (.cells #[.int .u64 (a.1 : Int), .int .u64 (a.2 : Int)] 25)).alloc (.cells #[.int .u64 (b.1 : Int), .int .u64 (b.2 : Int)] 25)).alloc (.cells #[.int .u64 0, .int .u64 0] 25)) = wa := ⟨_, rfl⟩
  have B0 : Below W.heap.size W W := Below.refl _ _
  have B1 := B0.alloc B0.size (.cells #[.int .u8 op] 22)
  have B2 := B1.alloc B1.size (.cells #[.int .i64 w] 3)
  have B3 := B2.alloc B2.size (.cells #[.int .u64 (a.1 : Int), .int .u64 (a.2 : Int)] 25)
  have B4 := B3.alloc B3.size (.cells #[.int .u64 (b.1 : Int), .int .u64 (b.2 : Int)] 25)
  have B5 := B4.alloc B4.size (.cells #[.int .u64 0, .int .u64 0] 25)
  have BA : Hide (Below W.heap.size W wa) := hide (by rw [← hwa]; exact B5)
  have Cop : wa.cell? ⟨W.heap.size, 0, none⟩ = some (.int .u8 op) := by rw [← hwa]; exact cell_of8 (alloc_past (alloc_past (alloc_past (alloc_past (alloc_at (by simp))))))
  have Cw : wa.cell? ⟨W.heap.size + 1, 0, none⟩ = some (.int .i64 w) := by rw [← hwa]; exact cell_of8 (alloc_past (alloc_past (alloc_past (alloc_at (by simp)))))
  have Va : VBlk wa (W.heap.size + 2) a := by rw [← hwa]; exact alloc_past (alloc_past (alloc_at (by simp)))
  have Vb : VBlk wa (W.heap.size + 3) b := by rw [← hwa]; exact alloc_past (alloc_at (by simp))
  have VZ : Hide (VBlk wa (W.heap.size + 4) (0, 0)) := hide (by rw [← hwa]; exact alloc_at (by simp))
  have HWA := hide hwa
  clear hwa B0 B1 B2 B3 B4 B5
  have CB := hide (hB wa W.heap.size (W.heap.size + 1) BA.out Cop Cw)
  clear hB
  obtain ⟨a0, a1⟩ := a
  have ac0 := Va.c0
  have ac1 := Va.c1
  clear Va
  obtain ⟨b0, b1⟩ := b
  have bc0 := Vb.c0
  have bc1 := Vb.c1
  clear Vb
  obtain ⟨⟨rp, rq⟩, re⟩ := r
  unfold vecE at CB ⊢
  unfold vecV at *
  simp only at *
  go_enter Tryd.func14, Tryd.ntmps14
  go_wp2_with fail
  rw [HWA.out]
  go_wp2_with fail
  refine CB.out.mono ?_
  rintro e w2 ⟨rfl, hb⟩
  have K1 : Hide (VBlk w2 (W.heap.size + 4) (0, 0)) := hide (VZ.out.later hb VZ.out.lt)
  have K2 : Hide (Below W.heap.size W w2) := hide (BA.out.trans (hb.mono BA.out.size))
  have g0 := K1.out.c0
  have g1 := K1.out.c1
  have z0 := K1.out.frozen 0
  have z1 := K1.out.frozen 1
  clear hb
  go_wp2
  refine bodyPost_ret (v := .tuple #[.agg #[.int .u64 (rp : Int), .int .u64 (rq : Int)], .int .i64 re]) ((K1.out.set2 rp rq).result2 (by rfl) _ rfl rfl) rfl ?_
  exact ⟨rfl, (K2.out.setCell (by simp; try omega) _).setCell (by simp; try omega) _⟩

set_option maxHeartbeats 1000000 in
theorem fone_r (op : Int) (w : Int) (a : Nat × Nat) (r : (Nat × Nat) × Int) (W : World)
    (hB : ∀ (W' : World) (q0 q1 : Nat), Below W.heap.size W W' → W'.cell? ⟨q0, 0, none⟩ = some (.int .u8 op) → W'.cell? ⟨q1, 0, none⟩ = some (.int .i64 w) →
      Calls Tryd.prog 34 #[.int .i64 w, .int .i64 w, vecV a, .func (.func 35) #[] #[.pointer (some ⟨q0, 0, none⟩), .pointer (some ⟨q1, 0, none⟩)]] W' fun e W'' => e = .returned (vecE r) ∧ Below W'.heap.size W' W'') :
    Calls Tryd.prog 12 #[.int .u8 op, .int .i64 w, vecV a] W fun e W' => e = .returned (vecE r) ∧ Below W.heap.size W W' := by
  obtain ⟨wa, hwa⟩ : ∃ wa, ((((W.alloc (.cells #[.int .u8 op] 22)).alloc (.cells #[.int .i64 w] 3)).alloc (.cells #[.int .u64 (a.1 : Int), .int .u64 (a.2 : Int)] 25)).alloc (.cells #[.int .u64 0, .int .u64 0] 25)) = wa := ⟨_, rfl⟩
  have B0 : Below W.heap.size W W := Below.refl _ _
  have B1 := B0.alloc B0.size (.cells #[.int .u8 op] 22)
  have B2 := B1.alloc B1.size (.cells #[.int .i64 w] 3)
  have B3 := B2.alloc B2.size (.cells #[.int .u64 (a.1 : Int), .int .u64 (a.2 : Int)] 25)
  have B4 := B3.alloc B3.size (.cells #[.int .u64 0, .int .u64 0] 25)
  have BA : Hide (Below W.heap.size W wa) := hide (by rw [← hwa]; exact B4)
  have Cop : wa.cell? ⟨W.heap.size, 0, none⟩ = some (.int .u8 op) := by rw [← hwa]; exact cell_of8 (alloc_past (alloc_past (alloc_past (alloc_at (by simp)))))
  have Cw : wa.cell? ⟨W.heap.size + 1, 0, none⟩ = some (.int .i64 w) := by rw [← hwa]; exact cell_of8 (alloc_past (alloc_past (alloc_at (by simp))))
  have Va : VBlk wa (W.heap.size + 2) a := by rw [← hwa]; exact alloc_past (alloc_at (by simp))
  have VZ : Hide (VBlk wa (W.heap.size + 3) (0, 0)) := hide (by rw [← hwa]; exact alloc_at (by simp))
  have HWA := hide hwa
  clear hwa B0 B1 B2 B3 B4
  have CB := hide (hB wa W.heap.size (W.heap.size + 1) BA.out Cop Cw)
  clear hB
  obtain ⟨a0, a1⟩ := a
  have ac0 := Va.c0
  have ac1 := Va.c1
  clear Va
  obtain ⟨⟨rp, rq⟩, re⟩ := r
  unfold vecE at CB ⊢
  unfold vecV at *
  simp only at *
  go_enter Tryd.func12, Tryd.ntmps12
  go_wp2_with fail
  rw [HWA.out]
  go_wp2_with fail
  refine CB.out.mono ?_
  rintro e w2 ⟨rfl, hb⟩
  have K1 : Hide (VBlk w2 (W.heap.size + 3) (0, 0)) := hide (VZ.out.later hb VZ.out.lt)
  have K2 : Hide (Below W.heap.size W w2) := hide (BA.out.trans (hb.mono BA.out.size))
  have g0 := K1.out.c0
  have g1 := K1.out.c1
  have z0 := K1.out.frozen 0
  have z1 := K1.out.frozen 1
  clear hb
  go_wp2
  refine bodyPost_ret (v := .tuple #[.agg #[.int .u64 (rp : Int), .int .u64 (rq : Int)], .int .i64 re]) ((K1.out.set2 rp rq).result2 (by rfl) _ rfl rfl) rfl ?_
  exact ⟨rfl, (K2.out.setCell (by simp; try omega) _).setCell (by simp; try omega) _⟩

set_option maxHeartbeats 1000000 in
theorem fheld_r (w : Int) (s : Bool) (a : Nat × Nat) (r : (Nat × Nat) × Int) (W : World)
    (hB : ∀ (W' : World) (q0 q1 : Nat), Below W.heap.size W W' → W'.cell? ⟨q0, 0, none⟩ = some (.int .i64 w) → W'.cell? ⟨q1, 0, none⟩ = some (.bool s) →
      Calls Tryd.prog 34 #[.int .i64 w, .int .i64 32, vecV a, .func (.func 42) #[] #[.pointer (some ⟨q0, 0, none⟩), .pointer (some ⟨q1, 0, none⟩)]] W' fun e W'' => e = .returned (vecE r) ∧ Below W'.heap.size W' W'') :
    Calls Tryd.prog 16 #[.int .i64 w, .bool s, vecV a] W fun e W' => e = .returned (vecE r) ∧ Below W.heap.size W W' := by
  obtain ⟨wa, hwa⟩ : ∃ wa, ((((W.alloc (.cells #[.int .i64 w] 3)).alloc (.cells #[.bool s] 4)).alloc (.cells #[.int .u64 (a.1 : Int), .int .u64 (a.2 : Int)] 25)).alloc (.cells #[.int .u64 0, .int .u64 0] 25)) = wa := ⟨_, rfl⟩
  have B0 : Below W.heap.size W W := Below.refl _ _
  have B1 := B0.alloc B0.size (.cells #[.int .i64 w] 3)
  have B2 := B1.alloc B1.size (.cells #[.bool s] 4)
  have B3 := B2.alloc B2.size (.cells #[.int .u64 (a.1 : Int), .int .u64 (a.2 : Int)] 25)
  have B4 := B3.alloc B3.size (.cells #[.int .u64 0, .int .u64 0] 25)
  have BA : Hide (Below W.heap.size W wa) := hide (by rw [← hwa]; exact B4)
  have Cw : wa.cell? ⟨W.heap.size, 0, none⟩ = some (.int .i64 w) := by rw [← hwa]; exact cell_of8 (alloc_past (alloc_past (alloc_past (alloc_at (by simp)))))
  have Cs : wa.cell? ⟨W.heap.size + 1, 0, none⟩ = some (.bool s) := by rw [← hwa]; exact cell_of8 (alloc_past (alloc_past (alloc_at (by simp))))
  have Va : VBlk wa (W.heap.size + 2) a := by rw [← hwa]; exact alloc_past (alloc_at (by simp))
  have VZ : Hide (VBlk wa (W.heap.size + 3) (0, 0)) := hide (by rw [← hwa]; exact alloc_at (by simp))
  have HWA := hide hwa
  clear hwa B0 B1 B2 B3 B4
  have CB := hide (hB wa W.heap.size (W.heap.size + 1) BA.out Cw Cs)
  clear hB
  obtain ⟨a0, a1⟩ := a
  have ac0 := Va.c0
  have ac1 := Va.c1
  clear Va
  obtain ⟨⟨rp, rq⟩, re⟩ := r
  unfold vecE at CB ⊢
  unfold vecV at *
  simp only at *
  go_enter Tryd.func16, Tryd.ntmps16
  go_wp2_with fail
  rw [HWA.out]
  go_wp2_with fail
  refine CB.out.mono ?_
  rintro e w2 ⟨rfl, hb⟩
  have K1 : Hide (VBlk w2 (W.heap.size + 3) (0, 0)) := hide (VZ.out.later hb VZ.out.lt)
  have K2 : Hide (Below W.heap.size W w2) := hide (BA.out.trans (hb.mono BA.out.size))
  have g0 := K1.out.c0
  have g1 := K1.out.c1
  have z0 := K1.out.frozen 0
  have z1 := K1.out.frozen 1
  clear hb
  go_wp2
  refine bodyPost_ret (v := .tuple #[.agg #[.int .u64 (rp : Int), .int .u64 (rq : Int)], .int .i64 re]) ((K1.out.set2 rp rq).result2 (by rfl) _ rfl rfl) rfl ?_
  exact ⟨rfl, (K2.out.setCell (by simp; try omega) _).setCell (by simp; try omega) _⟩

set_option maxHeartbeats 1000000 in
theorem fflt_r (w : Int) (s : Bool) (a : Nat × Nat) (r : (Nat × Nat) × Int) (W : World)
    (hB : ∀ (W' : World) (q0 q1 : Nat), Below W.heap.size W W' → W'.cell? ⟨q0, 0, none⟩ = some (.int .i64 w) → W'.cell? ⟨q1, 0, none⟩ = some (.bool s) →
      Calls Tryd.prog 34 #[.int .i64 32, .int .i64 w, vecV a, .func (.func 45) #[] #[.pointer (some ⟨q0, 0, none⟩), .pointer (some ⟨q1, 0, none⟩)]] W' fun e W'' => e = .returned (vecE r) ∧ Below W'.heap.size W' W'') :
    Calls Tryd.prog 18 #[.int .i64 w, .bool s, vecV a] W fun e W' => e = .returned (vecE r) ∧ Below W.heap.size W W' := by
  obtain ⟨wa, hwa⟩ : ∃ wa, ((((W.alloc (.cells #[.int .i64 w] 3)).alloc (.cells #[.bool s] 4)).alloc (.cells #[.int .u64 (a.1 : Int), .int .u64 (a.2 : Int)] 25)).alloc (.cells #[.int .u64 0, .int .u64 0] 25)) = wa := ⟨_, rfl⟩
  have B0 : Below W.heap.size W W := Below.refl _ _
  have B1 := B0.alloc B0.size (.cells #[.int .i64 w] 3)
  have B2 := B1.alloc B1.size (.cells #[.bool s] 4)
  have B3 := B2.alloc B2.size (.cells #[.int .u64 (a.1 : Int), .int .u64 (a.2 : Int)] 25)
  have B4 := B3.alloc B3.size (.cells #[.int .u64 0, .int .u64 0] 25)
  have BA : Hide (Below W.heap.size W wa) := hide (by rw [← hwa]; exact B4)
  have Cw : wa.cell? ⟨W.heap.size, 0, none⟩ = some (.int .i64 w) := by rw [← hwa]; exact cell_of8 (alloc_past (alloc_past (alloc_past (alloc_at (by simp)))))
  have Cs : wa.cell? ⟨W.heap.size + 1, 0, none⟩ = some (.bool s) := by rw [← hwa]; exact cell_of8 (alloc_past (alloc_past (alloc_at (by simp))))
  have Va : VBlk wa (W.heap.size + 2) a := by rw [← hwa]; exact alloc_past (alloc_at (by simp))
  have VZ : Hide (VBlk wa (W.heap.size + 3) (0, 0)) := hide (by rw [← hwa]; exact alloc_at (by simp))
  have HWA := hide hwa
  clear hwa B0 B1 B2 B3 B4
  have CB := hide (hB wa W.heap.size (W.heap.size + 1) BA.out Cw Cs)
  clear hB
  obtain ⟨a0, a1⟩ := a
  have ac0 := Va.c0
  have ac1 := Va.c1
  clear Va
  obtain ⟨⟨rp, rq⟩, re⟩ := r
  unfold vecE at CB ⊢
  unfold vecV at *
  simp only at *
  go_enter Tryd.func18, Tryd.ntmps18
  go_wp2_with fail
  rw [HWA.out]
  go_wp2_with fail
  refine CB.out.mono ?_
  rintro e w2 ⟨rfl, hb⟩
  have K1 : Hide (VBlk w2 (W.heap.size + 3) (0, 0)) := hide (VZ.out.later hb VZ.out.lt)
  have K2 : Hide (Below W.heap.size W w2) := hide (BA.out.trans (hb.mono BA.out.size))
  have g0 := K1.out.c0
  have g1 := K1.out.c1
  have z0 := K1.out.frozen 0
  have z1 := K1.out.frozen 1
  clear hb
  go_wp2
  refine bodyPost_ret (v := .tuple #[.agg #[.int .u64 (rp : Int), .int .u64 (rq : Int)], .int .i64 re]) ((K1.out.set2 rp rq).result2 (by rfl) _ rfl rfl) rfl ?_
  exact ⟨rfl, (K2.out.setCell (by simp; try omega) _).setCell (by simp; try omega) _⟩

set_option maxHeartbeats 1000000 in
theorem ftwo1_walk (op w x y n E : Int) (s : Bool) (q0 : Nat) (q1 : Nat) (W : World) (h0 : W.cell? ⟨q0, 0, none⟩ = some (.int .u8 op)) (h1 : W.cell? ⟨q1, 0, none⟩ = some (.int .i64 w))
    (hC : Calls Tryd.prog 28 #[.int .u8 op, .int .i64 w, .int .u64 x, .int .u64 y] W fun e W' => e = .returned (.tuple #[.int .u64 n, .int .i64 E]) ∧ Below W.heap.size W W') :
    Calls Tryd.prog 27 #[.int .u64 x, .int .u64 y, .pointer (some ⟨q0, 0, none⟩), .pointer (some ⟨q1, 0, none⟩)] W fun e W' => e = .returned (.tuple #[.int .u64 n, .int .i64 E]) ∧ Below W.heap.size W W' := by
  have C := hide hC
  clear hC
  go_enter Tryd.func27, Tryd.ntmps27
  go_wp2_with fail
  refine C.out.mono ?_
  rintro e w2 ⟨rfl, hb⟩
  have HB := hide hb
  clear hb
  go_wp2
  refine bodyPost_ret (v := .tuple #[.int .u64 n, .int .i64 E]) (by simp [results, Tryd.results27, go_sem]) rfl ?_
  exact ⟨rfl, HB.out⟩

set_option maxHeartbeats 1000000 in
theorem fone1_walk (op w x y n E : Int) (s : Bool) (q0 : Nat) (q1 : Nat) (W : World) (h0 : W.cell? ⟨q0, 0, none⟩ = some (.int .u8 op)) (h1 : W.cell? ⟨q1, 0, none⟩ = some (.int .i64 w))
    (hC : Calls Tryd.prog 36 #[.int .u8 op, .int .i64 w, .int .u64 x] W fun e W' => e = .returned (.tuple #[.int .u64 n, .int .i64 E]) ∧ Below W.heap.size W W') :
    Calls Tryd.prog 35 #[.int .u64 x, .pointer (some ⟨q0, 0, none⟩), .pointer (some ⟨q1, 0, none⟩)] W fun e W' => e = .returned (.tuple #[.int .u64 n, .int .i64 E]) ∧ Below W.heap.size W W' := by
  have C := hide hC
  clear hC
  go_enter Tryd.func35, Tryd.ntmps35
  go_wp2_with fail
  refine C.out.mono ?_
  rintro e w2 ⟨rfl, hb⟩
  have HB := hide hb
  clear hb
  go_wp2
  refine bodyPost_ret (v := .tuple #[.int .u64 n, .int .i64 E]) (by simp [results, Tryd.results35, go_sem]) rfl ?_
  exact ⟨rfl, HB.out⟩

set_option maxHeartbeats 1000000 in
theorem fheld1_walk (op w x y n E : Int) (s : Bool) (q0 : Nat) (q1 : Nat) (W : World) (h0 : W.cell? ⟨q0, 0, none⟩ = some (.int .i64 w)) (h1 : W.cell? ⟨q1, 0, none⟩ = some (.bool s))
    (hC : Calls Tryd.prog 43 #[.int .i64 w, .int .i64 32, .bool s, .int .u64 x] W fun e W' => e = .returned (.tuple #[.int .u64 n, .int .i64 E]) ∧ Below W.heap.size W W') :
    Calls Tryd.prog 42 #[.int .u64 x, .pointer (some ⟨q0, 0, none⟩), .pointer (some ⟨q1, 0, none⟩)] W fun e W' => e = .returned (.tuple #[.int .u64 n, .int .i64 E]) ∧ Below W.heap.size W W' := by
  have C := hide hC
  clear hC
  go_enter Tryd.func42, Tryd.ntmps42
  go_wp2_with fail
  refine C.out.mono ?_
  rintro e w2 ⟨rfl, hb⟩
  have HB := hide hb
  clear hb
  go_wp2
  refine bodyPost_ret (v := .tuple #[.int .u64 n, .int .i64 E]) (by simp [results, Tryd.results42, go_sem]) rfl ?_
  exact ⟨rfl, HB.out⟩

set_option maxHeartbeats 1000000 in
theorem fflt1_walk (op w x y n E : Int) (s : Bool) (q0 : Nat) (q1 : Nat) (W : World) (h0 : W.cell? ⟨q0, 0, none⟩ = some (.int .i64 w)) (h1 : W.cell? ⟨q1, 0, none⟩ = some (.bool s))
    (hC : Calls Tryd.prog 25 #[.int .i64 32, .int .i64 w, .bool s, .int .u64 x] W fun e W' => e = .returned (.tuple #[.int .u64 n, .int .i64 E]) ∧ Below W.heap.size W W') :
    Calls Tryd.prog 45 #[.int .u64 x, .pointer (some ⟨q0, 0, none⟩), .pointer (some ⟨q1, 0, none⟩)] W fun e W' => e = .returned (.tuple #[.int .u64 n, .int .i64 E]) ∧ Below W.heap.size W W' := by
  have C := hide hC
  clear hC
  go_enter Tryd.func45, Tryd.ntmps45
  go_wp2_with fail
  refine C.out.mono ?_
  rintro e w2 ⟨rfl, hb⟩
  have HB := hide hb
  clear hb
  go_wp2
  refine bodyPost_ret (v := .tuple #[.int .u64 n, .int .i64 E]) (by simp [results, Tryd.results45, go_sem]) rfl ?_
  exact ⟨rfl, HB.out⟩

set_option maxHeartbeats 1000000 in
theorem fthan1_t32 (op x y : Int) (q0 q1 : Nat) (W : World) (h0 : W.cell? ⟨q0, 0, none⟩ = some (.int .u8 op)) (h1 : W.cell? ⟨q1, 0, none⟩ = some (.int .i64 32))
    (hC : Calls Tryd.prog 39 #[.int .u8 op, .int .i64 32, .int .u64 x, .int .u64 y] W fun e W' => e = .returned (.tuple #[.bool true, .int .i64 0]) ∧ Below W.heap.size W W') :
    Calls Tryd.prog 38 #[.int .u64 x, .int .u64 y, .pointer (some ⟨q0, 0, none⟩), .pointer (some ⟨q1, 0, none⟩)] W fun e W' => e = .returned (.tuple #[.int .u64 4294967295, .int .i64 0]) ∧ Below W.heap.size W W' := by
  have C := hide hC
  have H1 := hide h1
  clear hC
  go_enter Tryd.func38, Tryd.ntmps38
  go_wp2_with fail
  refine C.out.mono ?_
  rintro e w2 ⟨rfl, hb⟩
  have HB := hide hb
  have h2 := cell_later hb H1.out (Nat.le_refl _)
  clear hb h0 h1
  go_wp2
  refine bodyPost_ret (v := .tuple #[.int .u64 4294967295, .int .i64 0]) (by simp [results, Tryd.results38, go_sem]) rfl ?_
  exact ⟨rfl, HB.out⟩

set_option maxHeartbeats 1000000 in
theorem fthan1_t64 (op x y : Int) (q0 q1 : Nat) (W : World) (h0 : W.cell? ⟨q0, 0, none⟩ = some (.int .u8 op)) (h1 : W.cell? ⟨q1, 0, none⟩ = some (.int .i64 64))
    (hC : Calls Tryd.prog 39 #[.int .u8 op, .int .i64 64, .int .u64 x, .int .u64 y] W fun e W' => e = .returned (.tuple #[.bool true, .int .i64 0]) ∧ Below W.heap.size W W') :
    Calls Tryd.prog 38 #[.int .u64 x, .int .u64 y, .pointer (some ⟨q0, 0, none⟩), .pointer (some ⟨q1, 0, none⟩)] W fun e W' => e = .returned (.tuple #[.int .u64 18446744073709551615, .int .i64 0]) ∧ Below W.heap.size W W' := by
  have C := hide hC
  have H1 := hide h1
  clear hC
  go_enter Tryd.func38, Tryd.ntmps38
  go_wp2_with fail
  refine C.out.mono ?_
  rintro e w2 ⟨rfl, hb⟩
  have HB := hide hb
  have h2 := cell_later hb H1.out (Nat.le_refl _)
  clear hb h0 h1
  go_wp2
  refine bodyPost_ret (v := .tuple #[.int .u64 18446744073709551615, .int .i64 0]) (by simp [results, Tryd.results38, go_sem]) rfl ?_
  exact ⟨rfl, HB.out⟩

set_option maxHeartbeats 1000000 in
theorem fthan1_f32 (op x y : Int) (q0 q1 : Nat) (W : World) (h0 : W.cell? ⟨q0, 0, none⟩ = some (.int .u8 op)) (h1 : W.cell? ⟨q1, 0, none⟩ = some (.int .i64 32))
    (hC : Calls Tryd.prog 39 #[.int .u8 op, .int .i64 32, .int .u64 x, .int .u64 y] W fun e W' => e = .returned (.tuple #[.bool false, .int .i64 0]) ∧ Below W.heap.size W W') :
    Calls Tryd.prog 38 #[.int .u64 x, .int .u64 y, .pointer (some ⟨q0, 0, none⟩), .pointer (some ⟨q1, 0, none⟩)] W fun e W' => e = .returned (.tuple #[.int .u64 0, .int .i64 0]) ∧ Below W.heap.size W W' := by
  have C := hide hC
  have H1 := hide h1
  clear hC
  go_enter Tryd.func38, Tryd.ntmps38
  go_wp2_with fail
  refine C.out.mono ?_
  rintro e w2 ⟨rfl, hb⟩
  have HB := hide hb
  have h2 := cell_later hb H1.out (Nat.le_refl _)
  clear hb h0 h1
  go_wp2
  refine bodyPost_ret (v := .tuple #[.int .u64 0, .int .i64 0]) (by simp [results, Tryd.results38, go_sem]) rfl ?_
  exact ⟨rfl, HB.out⟩

set_option maxHeartbeats 1000000 in
theorem fthan1_b32 (op x y : Int) (q0 q1 : Nat) (W : World) (h0 : W.cell? ⟨q0, 0, none⟩ = some (.int .u8 op)) (h1 : W.cell? ⟨q1, 0, none⟩ = some (.int .i64 32))
    (hC : Calls Tryd.prog 39 #[.int .u8 op, .int .i64 32, .int .u64 x, .int .u64 y] W fun e W' => e = .returned (.tuple #[.bool false, .int .i64 2]) ∧ Below W.heap.size W W') :
    Calls Tryd.prog 38 #[.int .u64 x, .int .u64 y, .pointer (some ⟨q0, 0, none⟩), .pointer (some ⟨q1, 0, none⟩)] W fun e W' => e = .returned (.tuple #[.int .u64 0, .int .i64 2]) ∧ Below W.heap.size W W' := by
  have C := hide hC
  have H1 := hide h1
  clear hC
  go_enter Tryd.func38, Tryd.ntmps38
  go_wp2_with fail
  refine C.out.mono ?_
  rintro e w2 ⟨rfl, hb⟩
  have HB := hide hb
  have h2 := cell_later hb H1.out (Nat.le_refl _)
  clear hb h0 h1
  go_wp2
  refine bodyPost_ret (v := .tuple #[.int .u64 0, .int .i64 2]) (by simp [results, Tryd.results38, go_sem]) rfl ?_
  exact ⟨rfl, HB.out⟩

set_option maxHeartbeats 1000000 in
theorem fthan1_f64 (op x y : Int) (q0 q1 : Nat) (W : World) (h0 : W.cell? ⟨q0, 0, none⟩ = some (.int .u8 op)) (h1 : W.cell? ⟨q1, 0, none⟩ = some (.int .i64 64))
    (hC : Calls Tryd.prog 39 #[.int .u8 op, .int .i64 64, .int .u64 x, .int .u64 y] W fun e W' => e = .returned (.tuple #[.bool false, .int .i64 0]) ∧ Below W.heap.size W W') :
    Calls Tryd.prog 38 #[.int .u64 x, .int .u64 y, .pointer (some ⟨q0, 0, none⟩), .pointer (some ⟨q1, 0, none⟩)] W fun e W' => e = .returned (.tuple #[.int .u64 0, .int .i64 0]) ∧ Below W.heap.size W W' := by
  have C := hide hC
  have H1 := hide h1
  clear hC
  go_enter Tryd.func38, Tryd.ntmps38
  go_wp2_with fail
  refine C.out.mono ?_
  rintro e w2 ⟨rfl, hb⟩
  have HB := hide hb
  have h2 := cell_later hb H1.out (Nat.le_refl _)
  clear hb h0 h1
  go_wp2
  refine bodyPost_ret (v := .tuple #[.int .u64 0, .int .i64 0]) (by simp [results, Tryd.results38, go_sem]) rfl ?_
  exact ⟨rfl, HB.out⟩

set_option maxHeartbeats 1000000 in
theorem fthan1_b64 (op x y : Int) (q0 q1 : Nat) (W : World) (h0 : W.cell? ⟨q0, 0, none⟩ = some (.int .u8 op)) (h1 : W.cell? ⟨q1, 0, none⟩ = some (.int .i64 64))
    (hC : Calls Tryd.prog 39 #[.int .u8 op, .int .i64 64, .int .u64 x, .int .u64 y] W fun e W' => e = .returned (.tuple #[.bool false, .int .i64 2]) ∧ Below W.heap.size W W') :
    Calls Tryd.prog 38 #[.int .u64 x, .int .u64 y, .pointer (some ⟨q0, 0, none⟩), .pointer (some ⟨q1, 0, none⟩)] W fun e W' => e = .returned (.tuple #[.int .u64 0, .int .i64 2]) ∧ Below W.heap.size W W' := by
  have C := hide hC
  have H1 := hide h1
  clear hC
  go_enter Tryd.func38, Tryd.ntmps38
  go_wp2_with fail
  refine C.out.mono ?_
  rintro e w2 ⟨rfl, hb⟩
  have HB := hide hb
  have h2 := cell_later hb H1.out (Nat.le_refl _)
  clear hb h0 h1
  go_wp2
  refine bodyPost_ret (v := .tuple #[.int .u64 0, .int .i64 2]) (by simp [results, Tryd.results38, go_sem]) rfl ?_
  exact ⟨rfl, HB.out⟩

set_option maxHeartbeats 1000000 in
theorem fPromote_r (a : Nat × Nat) (r : (Nat × Nat) × Int) (W : World)
    (hB : ∀ (W' : World), Below W.heap.size W W' →
      Calls Tryd.prog 34 #[.int .i64 32, .int .i64 64, vecV a, .func (.func 47) #[] #[]] W' fun e W'' => e = .returned (vecE r) ∧ Below W'.heap.size W' W'') :
    Calls Tryd.prog 20 #[vecV a] W fun e W' => e = .returned (vecV r.1) ∧ Below W.heap.size W W' := by
  obtain ⟨wa, hwa⟩ : ∃ wa, (W.alloc (.cells #[.int .u64 (a.1 : Int), .int .u64 (a.2 : Int)] 25)).alloc (.cells #[.int .u64 0, .int .u64 0] 25) = wa := ⟨_, rfl⟩
  have Va : VBlk wa W.heap.size a := by rw [← hwa]; exact alloc_past (alloc_at (by simp))
  have VA : Hide (VBlk wa (W.heap.size + 1) (0, 0)) := hide (by rw [← hwa]; exact alloc_at (by simp))
  have BA : Hide (Below W.heap.size W wa) := hide (by rw [← hwa]; exact (below_two _ _).alloc (by simp) _)
  have HWA := hide hwa
  have CB := hide (hB wa BA.out)
  clear hwa hB
  obtain ⟨a0, a1⟩ := a
  have ac0 := Va.c0
  have ac1 := Va.c1
  clear Va
  obtain ⟨⟨p, q⟩, re⟩ := r
  unfold vecE at CB
  unfold vecV at *
  simp only at *
  go_enter Tryd.func20, Tryd.ntmps20
  go_wp2_with fail
  rw [HWA.out]
  go_wp2_with fail
  refine CB.out.mono ?_
  rintro e w2 ⟨rfl, hb⟩
  have K1 : Hide (VBlk w2 (W.heap.size + 1) (0, 0)) := hide (VA.out.later hb VA.out.lt)
  have K2 : Hide (Below W.heap.size W w2) := hide (BA.out.trans (hb.mono BA.out.size))
  obtain ⟨wb, hwb⟩ : ∃ wb, w2.alloc (.cells #[.int .u64 (p : Int), .int .u64 (q : Int)] 25) = wb := ⟨_, rfl⟩
  have L2 : Hide (VBlk wb (W.heap.size + 1) (0, 0)) := hide (by rw [← hwb]; exact alloc_past K1.out)
  have L3 : Hide (Below W.heap.size W wb) := hide (by rw [← hwb]; exact K2.out.alloc K2.out.size _)
  have HWB := hide hwb
  have c0 := L2.out.c0
  have c1 := L2.out.c1
  have z0 := L2.out.frozen 0
  have z1 := L2.out.frozen 1
  rw [← hwb] at c0 c1 z0 z1
  clear hb hwb
  go_wp2_with fail
  rw [HWB.out]
  refine bodyPost_ret (v := .agg #[.int .u64 (p : Int), .int .u64 (q : Int)]) ((L2.out.set2 p q).result (by rfl) _ rfl) rfl ?_
  exact ⟨rfl, (L3.out.setCell (by simp) _).setCell (by simp) _⟩

set_option maxHeartbeats 1000000 in
theorem fDemote_r (a : Nat × Nat) (r : (Nat × Nat) × Int) (W : World)
    (hB : ∀ (W' : World), Below W.heap.size W W' →
      Calls Tryd.prog 34 #[.int .i64 64, .int .i64 32, vecV a, .func (.func 49) #[] #[]] W' fun e W'' => e = .returned (vecE r) ∧ Below W'.heap.size W' W'') :
    Calls Tryd.prog 22 #[vecV a] W fun e W' => e = .returned (vecV r.1) ∧ Below W.heap.size W W' := by
  obtain ⟨wa, hwa⟩ : ∃ wa, (W.alloc (.cells #[.int .u64 (a.1 : Int), .int .u64 (a.2 : Int)] 25)).alloc (.cells #[.int .u64 0, .int .u64 0] 25) = wa := ⟨_, rfl⟩
  have Va : VBlk wa W.heap.size a := by rw [← hwa]; exact alloc_past (alloc_at (by simp))
  have VA : Hide (VBlk wa (W.heap.size + 1) (0, 0)) := hide (by rw [← hwa]; exact alloc_at (by simp))
  have BA : Hide (Below W.heap.size W wa) := hide (by rw [← hwa]; exact (below_two _ _).alloc (by simp) _)
  have HWA := hide hwa
  have CB := hide (hB wa BA.out)
  clear hwa hB
  obtain ⟨a0, a1⟩ := a
  have ac0 := Va.c0
  have ac1 := Va.c1
  clear Va
  obtain ⟨⟨p, q⟩, re⟩ := r
  unfold vecE at CB
  unfold vecV at *
  simp only at *
  go_enter Tryd.func22, Tryd.ntmps22
  go_wp2_with fail
  rw [HWA.out]
  go_wp2_with fail
  refine CB.out.mono ?_
  rintro e w2 ⟨rfl, hb⟩
  have K1 : Hide (VBlk w2 (W.heap.size + 1) (0, 0)) := hide (VA.out.later hb VA.out.lt)
  have K2 : Hide (Below W.heap.size W w2) := hide (BA.out.trans (hb.mono BA.out.size))
  obtain ⟨wb, hwb⟩ : ∃ wb, w2.alloc (.cells #[.int .u64 (p : Int), .int .u64 (q : Int)] 25) = wb := ⟨_, rfl⟩
  have L2 : Hide (VBlk wb (W.heap.size + 1) (0, 0)) := hide (by rw [← hwb]; exact alloc_past K1.out)
  have L3 : Hide (Below W.heap.size W wb) := hide (by rw [← hwb]; exact K2.out.alloc K2.out.size _)
  have HWB := hide hwb
  have c0 := L2.out.c0
  have c1 := L2.out.c1
  have z0 := L2.out.frozen 0
  have z1 := L2.out.frozen 1
  rw [← hwb] at c0 c1 z0 z1
  clear hb hwb
  go_wp2_with fail
  rw [HWB.out]
  refine bodyPost_ret (v := .agg #[.int .u64 (p : Int), .int .u64 (q : Int)]) ((L2.out.set2 p q).result (by rfl) _ rfl) rfl ?_
  exact ⟨rfl, (L3.out.setCell (by simp) _).setCell (by simp) _⟩
end Go.Proofs.YtpeckiaimellmaaDoor
