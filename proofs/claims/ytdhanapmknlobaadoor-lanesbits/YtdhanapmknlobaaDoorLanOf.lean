/-
  lanes.OfBytes, Get, Set, Splat.
-/
import Derived.Test.YtdhanapmknlobaaDoorLanBytes
set_option linter.unusedVariables false
set_option linter.unusedSimpArgs false
namespace Go.Proofs.YtdhanapmknlobaaDoor
open Go.RowKit Lan

theorem list16 {L : List Nat} (h : L.length = 16) : ∃ x0 x1 x2 x3 x4 x5 x6 x7 x8 x9 x10 x11 x12 x13 x14 x15, L = [x0, x1, x2, x3, x4, x5, x6, x7, x8, x9, x10, x11, x12, x13, x14, x15] := by
  match L, h with
  | [x0, x1, x2, x3, x4, x5, x6, x7, x8, x9, x10, x11, x12, x13, x14, x15], _ => exact ⟨x0, x1, x2, x3, x4, x5, x6, x7, x8, x9, x10, x11, x12, x13, x14, x15, rfl⟩

theorem index16 {L : List Nat} (hL : L.length = 16) (k : Nat) (hk : k < 16) (w : World) :
    (Instr.index 39 (.agg (cellsB L)) (.int .i64 (k : Int))).run Tryd.prog w = .ok (.int .u8 (at0 L k : Int)) w := by
  obtain ⟨x0, x1, x2, x3, x4, x5, x6, x7, x8, x9, x10, x11, x12, x13, x14, x15, rfl⟩ := list16 hL
  rcases (show k = 0 ∨ k = 1 ∨ k = 2 ∨ k = 3 ∨ k = 4 ∨ k = 5 ∨ k = 6 ∨ k = 7 ∨ k = 8 ∨ k = 9 ∨ k = 10 ∨ k = 11 ∨ k = 12 ∨ k = 13 ∨ k = 14 ∨ k = 15 by omega) with rfl | rfl | rfl | rfl | rfl | rfl | rfl | rfl | rfl | rfl | rfl | rfl | rfl | rfl | rfl | rfl <;> kernel_rfl

theorem VBlk.set2 {w : World} {g : Nat} {v : Nat × Nat} (h : VBlk w g v) (p q : Nat) :
    VBlk ((w.setCell ⟨g, 0, none⟩ (.int .u64 (p : Int))).setCell ⟨g, 1, none⟩ (.int .u64 (q : Int))) g (p, q) := by
  unfold VBlk
  have h1 := heap_setCell_same w g 0 _ _ (.int .u64 (p : Int)) h
  rw [heap_setCell_same _ g 1 _ _ _ h1]
  rfl
theorem VBlk.other {w : World} {g g' : Nat} {v : Nat × Nat} (h : VBlk w g v) (hg : g ≠ g') (j : Nat) (x : Value) : VBlk (w.setCell ⟨g', j, none⟩ x) g v :=
  (heap_setCell_other _ _ _ _ hg).trans h
theorem Blk.other {w : World} {g g' : Nat} {L : List Nat} (h : Blk w g L) (hg : g ≠ g') (j : Nat) (x : Value) : Blk (w.setCell ⟨g', j, none⟩ x) g L :=
  (heap_setCell_other _ _ _ _ hg).trans h

theorem infoV : (Tryd.prog.info? 24).map (·.size) = some 2 := by kernel_rfl

theorem VBlk.result {w : World} {g : Nat} {v : Nat × Nat} (h : VBlk w g v) {fn : Func} {p : Tmp} (hf : fn.results = #[.cell p 24]) (tmps : Array Value) (hp : tmps.getD p undef = .pointer (some ⟨g, 0, none⟩)) :
    (results fn tmps).run Tryd.prog w = .ok (vecV v) w := by
  exact results_cell_row hf tmps w g _ _ _ _ hp h Tryd.underlying24 rfl infoV

def OfAt (L : List Nat) (W : World) (k : Nat) (wr : World) : Prop :=
  VBlk wr (W.heap.size + 1) (0, 0) ∧ VBlk wr (W.heap.size + 2) (vecTo 8 L k) ∧ Below W.heap.size W wr

set_option maxHeartbeats 1000000 in
theorem lofBytes_calls (L : List Nat) (hL : L.length = 16) (hb : Lanes 8 L) (W : World) :
    Calls Tryd.prog 23 #[arrV L] W fun e W' => e = .returned (vecV (vecN 8 L)) ∧ Below W.heap.size W W' := by
  have CW := hide (fun (k : Nat) (hk : k < 128 / 8) => with_calls (w := 8) (i := k) (.inl rfl) hk (hb k) (vecTo 8 L k) (vecTo_ok (.inl rfl) hb k (by omega)))
  have IX := hide (fun (k : Nat) (hk : k < 16) => index16 hL k hk)
  have BW := hide (fun k => hb k)
  have HL := hide hL
  have AB : Hide (Blk (W.alloc (.cells (cellsB L) 39)) W.heap.size L) := hide (alloc_at rfl)
  have AB2 : Hide (Blk (((W.alloc (.cells (cellsB L) 39)).alloc (.cells #[.int .u64 0, .int .u64 0] 24)).alloc (.cells #[.int .u64 0, .int .u64 0] 24)) W.heap.size L) := hide (alloc_past (alloc_past (alloc_at rfl)))
  have IN := info16' hL
  have IN := hide IN
  obtain ⟨⟨fp, fq⟩, hF⟩ : ∃ F, vecN 8 L = F := ⟨_, rfl⟩
  rw [hF]
  have HF := hide hF
  clear hb hL hF
  unfold arrV
  go_enter Tryd.func23, Tryd.ntmps23
  go_wp2_with (refine wpList_load_row rfl 39 _ rfl W.heap.size rfl 39 (cellsB L) (0, 0) _ AB2.out under16 rfl IN.out ?_)
  go_loopw [7] (fun x wr => ∃ k : Nat, x = .int .i64 (k : Int) ∧ k ≤ 16 ∧ OfAt L W k wr) (fun x _ => 16 - (intOf x).toNat)
  case atStart =>
    refine ⟨0, rfl, by omega, alloc_past (alloc_at (by simp)), alloc_at (by simp), ?_⟩
    exact (((Below.refl _ _).alloc (Nat.le_refl _) _).alloc (by simp) _).alloc (by simp; omega) _
  case round =>
    obtain ⟨k, rfl, hk, hr⟩ := hrel
    by_cases c : k < 16
    · have c1 : (k : Int) < 16 := by omega
      have CK := hide (CW.out k (by omega))
      have IK := IX.out k c
      have H := hide hr
      have h0 := hr.2.1.c0
      have h1 := hr.2.1.c1
      have hbk := BW.out k
      have ST : Hide (withN (vecTo 8 L k) 8 k (at0 L k) = vecTo 8 L (k + 1)) := hide rfl
      rw [ST.out] at CK
      unfold vecV at CK
      obtain ⟨v', hv'⟩ : ∃ v', vecTo 8 L (k + 1) = v' := ⟨_, rfl⟩
      have HV := hide hv'
      rw [hv'] at CK
      clear hr CW IX hv' BW ST AB AB2
      generalize (vecTo 8 L k).1 = lo at *
      generalize (vecTo 8 L k).2 = hi at *
      have HB := hide hbk
      obtain ⟨n, hn⟩ : ∃ n, at0 L k = n := ⟨_, rfl⟩
      rw [hn] at CK IK hbk
      have wz : IntKind.u64.wrap (n : Int) = (n : Int) := by rw [IntKind.wrap_u64]; omega
      clear hn HB
      simp only [show ((8 : Nat) : Int) = 8 from rfl] at CK
      obtain ⟨p, q⟩ := v'
      simp only at CK
      go_wp2_with fail
      refine (CK.out _).mono ?_
      rintro e w1 ⟨rfl, hb⟩
      have K1 : Hide (OfAt L W k w1) := by
        obtain ⟨a1, a2, a3⟩ := H.out
        exact hide ⟨a1.later hb a1.lt, a2.later hb a2.lt, a3.trans (hb.mono a3.size)⟩
      have hc0 := K1.out.2.1.c0
      have hc1 := K1.out.2.1.c1
      have hz0 : w1.frozen? ⟨W.heap.size + 1 + 1, 0, none⟩ = false := K1.out.2.1.frozen 0
      have hz1 : w1.frozen? ⟨W.heap.size + 1 + 1, 1, none⟩ = false := K1.out.2.1.frozen 1
      clear h0 h1 H hb IK
      go_wp2
      go_roundw
      case rel =>
        obtain ⟨a1, a2, a3⟩ := K1.out
        refine ⟨k + 1, by go_num, by omega, ?_, ?_, (a3.setCell (by simp; omega) _).setCell (by simp; omega) _⟩
        · exact (a1.other (by simp) _ _).other (by simp) _ _
        · rw [HV.out]; exact a2.set2 p q
      case measure => simp [intOf]; omega
    · have c0 : k = 16 := by omega
      subst c0
      have H := hide hr
      have hr2 : VBlk wr (W.heap.size + 1 + 1) (vecN 8 L) := hr.2.1
      rw [HF.out] at hr2
      have h0 := hr2.c0
      have h1 := hr2.c1
      have g0 := hr.1.c0
      have g1 := hr.1.c1
      have z0 := hr.1.frozen 0
      have z1 := hr.1.frozen 1
      clear hr hr2 CW IX BW AB AB2
      go_wp2
      refine bodyPost_ret (v := vecV (fp, fq)) ((H.out.1.set2 fp fq).result (by rfl) _ rfl) rfl ?_
      exact ⟨rfl, (H.out.2.2.setCell (by simp) _).setCell (by simp) _⟩
end Go.Proofs.YtdhanapmknlobaaDoor
