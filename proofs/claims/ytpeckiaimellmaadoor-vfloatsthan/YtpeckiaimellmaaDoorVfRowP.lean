/-
  vfloats' rows of four lanes: isWidth, count, rowOf, vecOf.
-/
import Derived.Test.YtpeckiaimellmaaDoorVfSpecP
import Derived.Test.YtpeckiaimellmaaDoorPkLan
import Derived.Test.YtpeckiaimellmaaDoorFFloThanP
set_option linter.unusedVariables false
set_option linter.unusedSimpArgs false
namespace Go.Proofs.YtpeckiaimellmaaDoor
open Go.RowKit Lan

def rowV (L : List Nat) : Value := .agg (cellsW L)
def RBlk (w : World) (g : Nat) (L : List Nat) : Prop := w.heap[g]? = some (.cells (cellsW L) 62 (0, 0))
def zero4 : List Nat := [0, 0, 0, 0]
theorem underR : Tryd.prog.underlying 62 = some (.array 4 23) := by kernel_rfl
theorem infoR : (Tryd.prog.info? 62).map (·.size) = some 4 := by kernel_rfl
theorem infoR' {L : List Nat} (h : L.length = 4) : (Tryd.prog.info? 62).map (·.size) = some (cellsW L).size := by rw [cellsW_size, h]; exact infoR
theorem cellsW_one (L : List Nat) : (cellsW L).all (·.oneCell') = true := by
  rw [Array.all_eq_true_iff_forall_mem]
  intro v hv
  simp [cellsW] at hv
  obtain ⟨n, _, rfl⟩ := hv
  rfl
theorem RBlk.cell {w : World} {g : Nat} {L : List Nat} (h : RBlk w g L) (k : Nat) (hk : k < L.length) : w.cell? ⟨g, k, none⟩ = some (.int .u64 (at0 L k : Int)) := by
  unfold RBlk at h
  simp [World.cell?, h, cellsW_get L k hk]
theorem RBlk.frozen {w : World} {g : Nat} {L : List Nat} (h : RBlk w g L) (k : Nat) : w.frozen? ⟨g, k, none⟩ = false := frozen_of_row w g k _ _ h
theorem RBlk.lt {w : World} {g : Nat} {L : List Nat} (h : RBlk w g L) : g < w.heap.size := (Array.getElem?_eq_some_iff.1 h).1
theorem RBlk.later {w w' : World} {g : Nat} {L : List Nat} (h : RBlk w g L) {B : Nat} (hb : Below B w w') (hg : g < B) : RBlk w' g L := (hb.block g hg).trans h
theorem RBlk.set {w : World} {g : Nat} {L : List Nat} (h : RBlk w g L) (k n : Nat) : RBlk (w.setCell ⟨g, k, none⟩ (.int .u64 (n : Int))) g (L.set k n) := by
  unfold RBlk
  rw [heap_setCell_same w g k _ _ _ h, cellsW_set]
theorem RBlk.other {w : World} {g g' : Nat} {L : List Nat} (h : RBlk w g L) (hg : g ≠ g') (j : Nat) (x : Value) : RBlk (w.setCell ⟨g', j, none⟩ x) g L :=
  (heap_setCell_other _ _ _ _ hg).trans h

theorem f_lan {w : Nat} (hw : F.IsW w) : w ≤ 64 ∧ 0 < w := by rcases hw with rfl | rfl <;> decide
theorem f_c4 {w c : Nat} (hw : F.IsW w) (hc : 128 / w = c) : c ≤ 4 := by rcases hw with rfl | rfl <;> omega
theorem at_fill (f : Nat → Nat) (c i : Nat) (hi : i < c) (h4 : c ≤ 4) : at0 (fillC 4 f c) i = f i := by
  simp [at0, fillC, List.getElem?_range (show i < 4 by omega), hi]
theorem fillC_zero4 (f : Nat → Nat) : fillC 4 f 0 = zero4 := fillC_zero 4 f

set_option maxHeartbeats 1000000 in
theorem fisWidth_calls (w : Int) (W : World) : Calls Tryd.prog 57 #[.int .i64 w] W fun e W' => e = .returned (.bool (isF w)) ∧ Below W.heap.size W W' := by
  have C := F.None_calls w 0 (by decide) W
  have e : F.okW w 0 = isF w := by
    unfold F.okW isF
    cases h1 : (w == 32) <;> cases h2 : (w == 64) <;> simp
  rw [e] at C
  unfold F.pairB at C
  cases h : isF w with
  | false =>
    rw [h] at C
    simp only [Bool.false_eq_true, if_false] at C
    have C := hide C
    clear h e
    go_enter Tryd.func57, Tryd.ntmps57
    go_wp2_with fail
    refine C.out.mono ?_
    rintro e w1 ⟨rfl, hb⟩
    have BN := hide hb
    clear hb
    go_wp2
    go_ret
    exact ⟨rfl, BN.out⟩
  | true =>
    rw [h] at C
    simp only [if_true] at C
    generalize F.na w.toNat 0 = q at C
    have C := hide C
    clear h e
    go_enter Tryd.func57, Tryd.ntmps57
    go_wp2_with fail
    refine C.out.mono ?_
    rintro e w1 ⟨rfl, hb⟩
    have BN := hide hb
    clear hb
    go_wp2
    go_ret
    exact ⟨rfl, BN.out⟩

theorem fcount_calls {w c : Nat} (hw : F.IsW w) (hc : 128 / w = c) (W : World) : Calls Tryd.prog 59 #[.int .i64 (w : Int)] W fun e W' => e = .returned (.int .i64 (c : Int)) ∧ W' = W := by
  subst hc
  rcases hw with rfl | rfl
  all_goals
    go_enter Tryd.func59, Tryd.ntmps59
    go_wp2
    go_ret
    exact ⟨rfl, rfl⟩

def RowAt (W : World) (v : Nat × Nat) (L : List Nat) (wr : World) : Prop :=
  VBlk wr W.heap.size v ∧ RBlk wr (W.heap.size + 1) zero4 ∧ RBlk wr (W.heap.size + 1 + 1) L ∧ Below W.heap.size W wr

set_option maxHeartbeats 1000000 in
theorem rowOf_calls {w c : Nat} (hw : F.IsW w) (hc : 128 / w = c) (v : Nat × Nat) (hv : Vok v) (W : World) (hT : WTabs W) :
    Calls Tryd.prog 58 #[.int .i64 (w : Int), vecV v] W fun e W' => e = .returned (rowV (fillC 4 (laneN v w) c)) ∧ Below W.heap.size W W' := by
  have hc4 := f_c4 hw hc
  have CL : Hide (∀ (k : Nat), k < c → ∀ W', Below W.heap.size W W' → Calls Tryd.prog 24 #[vecV v, .int .i64 (w : Int), .int .i64 (k : Int)] W' fun e W'' => e = .returned (.tuple #[.int .u64 (laneN v w k : Int), .int .i64 0]) ∧ Below W'.heap.size W' W'') := hide (fun k hk W' hb => by
    have := lget_calls v hv w k W' (hT.later hb)
    unfold getV at this
    rw [isL_of (lan_of hw) (by omega)] at this
    unfold pairV at this
    simpa using this)
  have CN := hide (fcount_calls hw hc)
  have WA : Hide (RowAt W v zero4 (((W.alloc (.cells #[.int .u64 (v.1 : Int), .int .u64 (v.2 : Int)] 25)).alloc (.cells #[.int .u64 0, .int .u64 0, .int .u64 0, .int .u64 0] 62)).alloc (.cells #[.int .u64 0, .int .u64 0, .int .u64 0, .int .u64 0] 62))) :=
    hide ⟨alloc_past (alloc_past (alloc_at rfl)), alloc_past (alloc_at (by simp)), alloc_at (by simp), ((below_two _ _).alloc (by simp) _).alloc (by simp; omega) _⟩
  generalize laneN v w = f at *
  clear hT hw hc hv
  obtain ⟨lo, hi⟩ := v
  unfold vecV at CL ⊢
  simp only at CL ⊢
  have HC4 := hide hc4
  go_enter Tryd.func58, Tryd.ntmps58
  go_wp2_with (with_reducible refine (CN.out _).mono ?_; rintro e w2 ⟨rfl, rfl⟩)
  go_loopw [9] (fun x wr => ∃ k : Nat, x = .int .i64 (k : Int) ∧ k ≤ c ∧ RowAt W (lo, hi) (fillC 4 f k) wr) (fun x _ => c - (intOf x).toNat)
  case atStart => exact ⟨0, rfl, by omega, by rw [fillC_zero4]; exact WA.out⟩
  case round =>
    obtain ⟨k, rfl, hk, hr⟩ := hrel
    clear WA
    by_cases c0 : k < c
    · have c1 : (k : Int) < (c : Int) := by omega
      have c2 : (k : Int) < 4 := by have := HC4.out; omega
      have CK := hide (CL.out k c0 _ hr.2.2.2)
      have H := hide hr
      have h0 := hr.1.c0
      have h1 := hr.1.c1
      simp only at h0 h1
      have ST := hide (fillC_set 4 f k (by have := HC4.out; omega))
      have HC := hide c0
      clear hr CL
      generalize hn : f k = n at *
      clear hn
      go_wp2_with fail
      refine CK.out.mono ?_
      rintro e w2 ⟨rfl, hb⟩
      have K1 : Hide (RowAt W (lo, hi) (fillC 4 f k) w2) := by
        obtain ⟨a1, a2, a3, a4⟩ := H.out
        exact hide ⟨a1.later hb a1.lt, a2.later hb a2.lt, a3.later hb a3.lt, a4.trans (hb.mono a4.size)⟩
      have hc : w2.cell? ⟨W.heap.size + 1 + 1, k, none⟩ = some (.int .u64 (at0 (fillC 4 f k) k : Int)) := K1.out.2.2.1.cell k (by rw [fillC_length]; omega)
      have hz : w2.frozen? ⟨W.heap.size + 1 + 1, k, none⟩ = false := K1.out.2.2.1.frozen k
      clear h0 h1 H hb
      go_wp2
      go_roundw
      case rel =>
        obtain ⟨a1, a2, a3, a4⟩ := K1.out
        refine ⟨k + 1, by go_num, by omega, a1.other (by omega) _ _, a2.other (by omega) _ _, ?_, a4.setCell (by simp; try omega) _⟩
        rw [← ST.out]; exact a3.set k n
      case measure => simp [intOf]; omega
    · obtain rfl : k = c := by omega
      have hl := fillC_length 4 f k
      obtain ⟨L, hLL⟩ : ∃ L, fillC 4 f k = L := ⟨_, rfl⟩
      rw [hLL] at hr hl
      have HLL := hide hLL
      clear hLL
      have HL := hide hl
      obtain ⟨a1, a2, a3, a4⟩ := hr
      have A2 := hide a2
      have A3 := hide a3
      have A4 := hide a4
      clear a1 a2 a3 a4 CL
      go_wp2_with (first | refine wpList_load_row rfl 62 _ rfl (W.heap.size + 1 + 1) rfl 62 (cellsW L) (0, 0) _ A3.out underR rfl (infoR' HL.out) ?_ | refine wpList_store_row rfl 62 _ _ rfl (W.heap.size + 1) (cellsW L) rfl rfl 62 (cellsW zero4) A2.out (infoR' HL.out) (by rw [cellsW_size, cellsW_size, HL.out]; rfl) (cellsW_one L) ?_)
      refine bodyPost_ret (v := .agg (cellsW L)) (results_cell_row (by rfl) _ _ (W.heap.size + 1) 62 (cellsW L) (0, 0) _ rfl (setRow_heap _ _ _ _ _ _ A2.out) underR rfl (infoR' HL.out)) rfl ?_
      exact ⟨by rw [HLL.out]; rfl, below_setRow A4.out (by omega) _⟩

theorem lenR : Tryd.prog.arrayLen 62 = 4 := by kernel_rfl
theorem elemR : Tryd.prog.elem 62 = 23 := by kernel_rfl
theorem slice4 (g k : Nat) (hk : k ≤ 4) (W : World) : (Instr.sliceAt 62 (.pointer (some ⟨g, 0, none⟩)) none (some (.int .i64 (k : Int))) none).run Tryd.prog W = .ok (.slice (some ⟨g, 0, none⟩) k 4) W := by
  rw [run_sliceAt_array_h W 62 ⟨g, 0, none⟩ (by rw [lenR, elemR]; exact underR) .i64 (k : Int) (by omega) (by rw [lenR]; omega), elemR, lenR]
  obtain ⟨i0, hi, hz0, hz1, hz2⟩ := info_parts infoW
  simp [slicedAt, sizeOf, go_sem]

set_option maxHeartbeats 1000000 in
/-- The vector of the first lanes of a row. -/
theorem vecOf_calls {w c : Nat} (hw : F.IsW w) (hc : 128 / w = c) (R : Nat → Nat) (hR : ∀ i, i < c → R i < 2 ^ w) (L : List Nat) (hl : L.length = 4) (hL : ∀ i, i < c → at0 L i = R i) (W : World) (hT : WTabs W) :
    Calls Tryd.prog 60 #[.int .i64 (w : Int), rowV L] W fun e W' => e = .returned (vecV (vlanes w R)) ∧ Below W.heap.size W W' := by
  have hc4 := f_c4 hw hc
  have CO : Hide (∀ W', Below W.heap.size W W' → ∀ gg, RBlk W' gg L → Calls Tryd.prog 104 #[.int .i64 (w : Int), .slice (some ⟨gg, 0, none⟩) c 4] W' fun e W'' =>
      e = .returned (vecE (vlanes w R, 0)) ∧ Below W'.heap.size W' W'') := hide (by
    intro W' hb gg hg
    have hlt : ∀ i, i < c → at0 ((List.range c).map R) i = R i := fun i hi => by simp [at0, List.getElem?_range hi]
    have hw64 : 2 ^ w ≤ 2 ^ 64 := Nat.pow_le_pow_right (by omega) (by rcases hw with rfl | rfl <;> decide)
    have h64 : ∀ i, at0 ((List.range c).map R) i < 2 ^ 64 := fun i => by
      by_cases hi : i < c
      · rw [hlt i hi]; exact Nat.lt_of_lt_of_le (hR i hi) hw64
      · simp [at0, List.getElem?_eq_none (show ((List.range c).map R).length ≤ i by simp; omega)]
    have := lof_ok (lan_of hw) hc gg 0 4 ((List.range c).map R) (by simp) h64 W' (hT.later hb) (fun i hi => by rw [Nat.zero_add, hlt i hi, ← hL i hi]; exact hg.cell i (by omega))
    rw [okAll_true (fun k hk => by
      have hk' : k < c := by simpa using hk
      rw [hlt k hk']
      exact ok1_of (lan_of hw) ⟨by omega, by exact_mod_cast hR k hk'⟩)] at this
    unfold vlanes
    rw [hc]
    simpa using this)
  have CN := hide (fcount_calls hw hc)
  have SL := hide (fun g W' => slice4 g c hc4 W')
  obtain ⟨wa, hwa⟩ : ∃ wa, (W.alloc (.cells (cellsW L) 62)).alloc (.cells #[.int .u64 0, .int .u64 0] 25) = wa := ⟨_, rfl⟩
  have RA : Hide (RBlk wa W.heap.size L) := hide (by rw [← hwa]; exact alloc_past (alloc_at rfl))
  have VA : Hide (VBlk wa (W.heap.size + 1) (0, 0)) := hide (by rw [← hwa]; exact alloc_at (by simp))
  have BA : Hide (Below W.heap.size W wa) := hide (by rw [← hwa]; exact (below_two _ _).alloc (by simp) _)
  obtain ⟨⟨p, q⟩, hV⟩ : ∃ x, vlanes w R = x := ⟨_, rfl⟩
  rw [hV] at CO ⊢
  have CW := hide (CO.out wa BA.out W.heap.size RA.out)
  have HWA := hide hwa
  clear hwa hT hw hc hR hl hL hV CO
  unfold vecE at CW
  unfold vecV at *
  unfold rowV
  simp only at *
  have sl := SL.out W.heap.size
  go_enter Tryd.func60, Tryd.ntmps60
  go_wp2_with fail
  rw [HWA.out]
  go_wp2_with ((with_reducible refine (CN.out _).mono ?_); rintro e w2 ⟨rfl, hww⟩; replace hww := hww.symm; subst hww)
  refine CW.out.mono ?_
  rintro e w2 ⟨rfl, hb⟩
  have K1 : Hide (VBlk w2 (W.heap.size + 1) (0, 0)) := hide (VA.out.later hb VA.out.lt)
  have K2 : Hide (Below W.heap.size W w2) := hide (BA.out.trans (hb.mono BA.out.size))
  have KS : Hide (W.heap.size + 1 < w2.heap.size) := hide K1.out.lt
  obtain ⟨wb, hwb⟩ : ∃ wb, w2.alloc (.cells #[.int .u64 (p : Int), .int .u64 (q : Int)] 25) = wb := ⟨_, rfl⟩
  have L2 : Hide (VBlk wb (W.heap.size + 1) (0, 0)) := hide (by rw [← hwb]; exact alloc_past K1.out)
  have L3 : Hide (Below W.heap.size W wb) := hide (by rw [← hwb]; exact K2.out.alloc K2.out.size _)
  have HWB := hide hwb
  have c0 := L2.out.c0
  have c1 := L2.out.c1
  have z0 := L2.out.frozen 0
  have z1 := L2.out.frozen 1
  rw [← hwb] at c0 c1 z0 z1
  clear hb hwb
  go_wp2_with fail
  rw [HWB.out]
  refine bodyPost_ret (v := .agg #[.int .u64 (p : Int), .int .u64 (q : Int)]) ((L2.out.set2 p q).result (by rfl) _ rfl) rfl ?_
  exact ⟨rfl, (L3.out.setCell (by simp) _).setCell (by simp) _⟩
end Go.Proofs.YtpeckiaimellmaaDoor
