/-
  lanes.Bytes, lanes.OfBytes.
-/
import Derived.Test.YtdhanapmknlobabDoorLanCode
import Derived.Laws.Tables
set_option linter.unusedVariables false
set_option linter.unusedSimpArgs false
namespace Go.Proofs.YtdhanapmknlobabDoor
open Go.RowKit Lan

/-- The cells of a row of bytes. -/
def cellsB (L : List Nat) : Array Value := (L.map fun n : Nat => Value.int .u8 (n : Int)).toArray
/-- Sixteen bytes, as they are held. -/
def arrV (L : List Nat) : Value := .agg (cellsB L)
def Blk (w : World) (g : Nat) (L : List Nat) : Prop := w.heap[g]? = some (.cells (cellsB L) 34 (0, 0))
def VBlk (w : World) (g : Nat) (v : Nat × Nat) : Prop := w.heap[g]? = some (.cells #[.int .u64 (v.1 : Int), .int .u64 (v.2 : Int)] 24 (0, 0))

/-- The first k of sixteen filled in. -/
def fillTo (f : Nat → Nat) (k : Nat) : List Nat := (List.range 16).map fun j => if j < k then f j else 0
theorem fill_length (f : Nat → Nat) (k : Nat) : (fillTo f k).length = 16 := by simp [fillTo]
theorem fill_set (f : Nat → Nat) (k : Nat) (hk : k < 16) : (fillTo f k).set k (f k) = fillTo f (k + 1) := by
  apply List.ext_getElem
  · simp [fillTo]
  · intro j h1 h2
    simp only [fillTo, List.getElem_set, List.getElem_map, List.getElem_range]
    by_cases e : k = j
    · subst e; simp
    · by_cases c : j < k
      · simp [e, c, show j < k + 1 by omega]
      · simp [e, c, show ¬ j < k + 1 by omega]
theorem fill_all (f : Nat → Nat) : fillTo f 16 = (List.range 16).map f := by
  apply List.map_congr_left
  intro j hj
  simp at hj
  simp [hj]

theorem cellsB_size (L : List Nat) : (cellsB L).size = L.length := by simp [cellsB]
theorem cellsB_set (L : List Nat) (k n : Nat) : (cellsB L).setIfInBounds k (.int .u8 (n : Int)) = cellsB (L.set k n) := by
  apply Array.ext'
  simp [cellsB, List.map_set]
theorem cellsB_get (L : List Nat) (k : Nat) (hk : k < L.length) : (cellsB L)[k]? = some (.int .u8 (at0 L k : Int)) := by
  simp [cellsB, at0, List.getElem?_eq_getElem hk]
theorem cellsB_one (L : List Nat) : (cellsB L).all (·.oneCell') = true := by
  rw [Array.all_eq_true_iff_forall_mem]
  intro v hv
  simp [cellsB] at hv
  obtain ⟨n, _, rfl⟩ := hv
  rfl

theorem Blk.cell {w : World} {g : Nat} {L : List Nat} (h : Blk w g L) (k : Nat) (hk : k < L.length) : w.cell? ⟨g, k, none⟩ = some (.int .u8 (at0 L k : Int)) := by
  unfold Blk at h
  simp [World.cell?, h, cellsB_get L k hk]
theorem Blk.frozen {w : World} {g : Nat} {L : List Nat} (h : Blk w g L) (k : Nat) : w.frozen? ⟨g, k, none⟩ = false := frozen_of_row w g k _ _ h
theorem Blk.lt {w : World} {g : Nat} {L : List Nat} (h : Blk w g L) : g < w.heap.size := (Array.getElem?_eq_some_iff.1 h).1
theorem Blk.later {w w' : World} {g : Nat} {L : List Nat} (h : Blk w g L) {B : Nat} (hb : Below B w w') (hg : g < B) : Blk w' g L := (hb.block g hg).trans h
theorem Blk.set {w : World} {g : Nat} {L : List Nat} (h : Blk w g L) (k n : Nat) : Blk (w.setCell ⟨g, k, none⟩ (.int .u8 (n : Int))) g (L.set k n) := by
  unfold Blk
  rw [heap_setCell_same w g k _ _ _ h, cellsB_set]
theorem VBlk.later {w w' : World} {g : Nat} {v : Nat × Nat} (h : VBlk w g v) {B : Nat} (hb : Below B w w') (hg : g < B) : VBlk w' g v := (hb.block g hg).trans h
theorem VBlk.lt {w : World} {g : Nat} {v : Nat × Nat} (h : VBlk w g v) : g < w.heap.size := (Array.getElem?_eq_some_iff.1 h).1
theorem VBlk.c0 {w : World} {g : Nat} {v : Nat × Nat} (h : VBlk w g v) : w.cell? ⟨g, 0, none⟩ = some (.int .u64 (v.1 : Int)) := by
  unfold VBlk at h; simp [World.cell?, h]
theorem VBlk.c1 {w : World} {g : Nat} {v : Nat × Nat} (h : VBlk w g v) : w.cell? ⟨g, 1, none⟩ = some (.int .u64 (v.2 : Int)) := by
  unfold VBlk at h; simp [World.cell?, h]
theorem VBlk.frozen {w : World} {g : Nat} {v : Nat × Nat} (h : VBlk w g v) (k : Nat) : w.frozen? ⟨g, k, none⟩ = false := frozen_of_row w g k _ _ h

theorem under16 : Tryd.prog.underlying 34 = some (.array 16 5) := by kernel_rfl
theorem info16 : (Tryd.prog.info? 34).map (·.size) = some 16 := by kernel_rfl
theorem info16' {L : List Nat} (h : L.length = 16) : (Tryd.prog.info? 34).map (·.size) = some (cellsB L).size := by rw [cellsB_size, h]; exact info16

theorem w8_wrap {n : Nat} (h : n < 2 ^ 8) : IntKind.u8.wrap (n : Int) = (n : Int) := by
  rw [IntKind.wrap_u8]; omega

theorem alloc_at {w : World} {o : Obj} {g : Nat} (hg : g = w.heap.size) : (w.alloc o).heap[g]? = some o := by subst hg; exact heap_alloc_new w o
theorem alloc_past {w : World} {o x : Obj} {g : Nat} (h : w.heap[g]? = some x) : (w.alloc o).heap[g]? = some x := by
  rw [Below.heap_alloc _ _ _ (Array.getElem?_eq_some_iff.1 h).1]; exact h

theorem below_setRow {B : Nat} {a w : World} (h : Below B a w) {g : Nat} (hg : B ≤ g) (cs : Array Value) : Below B a (w.setRow g cs) :=
  h.trans ⟨rfl, rfl, rfl, by simp, fun k hk => by
    simp only [World.setRow, Array.getElem?_modify]
    rw [if_neg (by omega)]⟩

def zero16 : List Nat := List.replicate 16 0
theorem zero16_cells : #[Value.int .u8 0, .int .u8 0, .int .u8 0, .int .u8 0, .int .u8 0, .int .u8 0, .int .u8 0, .int .u8 0, .int .u8 0, .int .u8 0, .int .u8 0, .int .u8 0, .int .u8 0, .int .u8 0, .int .u8 0, .int .u8 0] = cellsB zero16 := rfl
theorem zero16_fill (f : Nat → Nat) : zero16 = fillTo f 0 := rfl

def BytesAt (v : Nat × Nat) (f : Nat → Nat) (W : World) (k : Nat) (wr : World) : Prop :=
  VBlk wr W.heap.size v ∧ Blk wr (W.heap.size + 1) zero16 ∧ Blk wr (W.heap.size + 2) (fillTo f k) ∧ Below W.heap.size W wr

set_option maxHeartbeats 1000000 in
theorem lbytes_calls (v : Nat × Nat) (hv : Vok v) (W : World) :
    Calls Tryd.prog 11 #[vecV v] W fun e W' => e = .returned (arrV (listN v 8)) ∧ Below W.heap.size W W' := by
  have FULL : Hide (fillTo (laneN v 8) 16 = listN v 8) := hide (fill_all (laneN v 8))
  have CL := hide (fun (k : Nat) (hk : k < 128 / 8) => lane_calls (w := 8) (i := k) (.inl rfl) hk v hv)
  have LL := hide (fun k => laneN_lt v 8 k)
  clear hv
  generalize hf : laneN v 8 = f at *
  generalize hL : listN v 8 = L at *
  clear hf hL
  obtain ⟨lo, hi⟩ := v
  unfold vecV at CL ⊢
  simp only at CL ⊢
  go_enter Tryd.func11, Tryd.ntmps11
  go_wp2_with fail
  go_loopw [5] (fun x wr => ∃ k : Nat, x = .int .i64 (k : Int) ∧ k ≤ 16 ∧ BytesAt (lo, hi) f W k wr) (fun x _ => 16 - (intOf x).toNat)
  case atStart =>
    refine ⟨0, rfl, by omega, alloc_past (alloc_past (alloc_at rfl)), alloc_past (alloc_at (by simp)), alloc_at (by simp), ?_⟩
    exact (((Below.refl _ _).alloc (Nat.le_refl _) _).alloc (by simp) _).alloc (by simp; omega) _
  case round =>
    obtain ⟨k, rfl, hk, hr⟩ := hrel
    by_cases c : k < 16
    · have c1 : (k : Int) < 16 := by omega
      have CK := hide (CL.out k (by omega))
      have H := hide hr
      have h0 := hr.1.c0
      have h1 := hr.1.c1
      simp only at h0 h1
      have E := w8_wrap (LL.out k)
      have HE : Hide (f k = f k) := hide rfl
      have ST := hide (fill_set f k c)
      clear hr LL CL
      simp only [show ((8 : Nat) : Int) = 8 from rfl] at CK
      go_wp2_with fail
      refine (CK.out _).mono ?_
      rintro e w1 ⟨rfl, hb⟩
      have K1 : Hide (BytesAt (lo, hi) f W k w1) := by
        obtain ⟨a1, a2, a3, a4⟩ := H.out
        exact hide ⟨a1.later hb a1.lt, a2.later hb a2.lt, a3.later hb a3.lt, a4.trans (hb.mono a4.size)⟩
      have hc : w1.cell? ⟨W.heap.size + 1 + 1, k, none⟩ = some (.int .u8 (at0 (fillTo f k) k : Int)) := K1.out.2.2.1.cell k (by rw [fill_length]; exact c)
      have hz : w1.frozen? ⟨W.heap.size + 1 + 1, k, none⟩ = false := K1.out.2.2.1.frozen k
      clear h0 h1 H hb
      go_wp2
      go_roundw
      case rel =>
        obtain ⟨a1, a2, a3, a4⟩ := K1.out
        refine ⟨k + 1, by go_num, by omega, ?_, ?_, ?_, a4.setCell (by simp; omega) _⟩
        · exact (heap_setCell_other _ _ _ _ (by simp; omega)).trans a1
        · exact (heap_setCell_other _ _ _ _ (by simp)).trans a2
        · rw [← ST.out]; exact a3.set k (f k)
      case measure => simp [intOf]; omega
    · have c0 : k = 16 := by omega
      subst c0
      have H := hide hr
      have hF := FULL.out
      obtain ⟨a1, a2, a3, a4⟩ := hr
      rw [FULL.out] at a3
      have hL : L.length = 16 := by rw [← FULL.out]; exact fill_length f 16
      have A3 := hide a3
      have A2 := hide a2
      clear hF a1 a2 a3 a4
      go_wp2_with (first | refine wpList_load_row rfl 34 _ rfl (W.heap.size + 1 + 1) rfl 34 (cellsB L) (0, 0) _ A3.out under16 rfl (info16' hL) ?_ | refine wpList_store_row rfl 34 _ _ rfl (W.heap.size + 1) (cellsB L) rfl rfl 34 (cellsB zero16) A2.out (info16' hL) (by rw [cellsB_size, cellsB_size, hL]; rfl) (cellsB_one L) ?_)
      refine bodyPost_ret (v := .agg (cellsB L)) (results_cell_row (by rfl) _ _ (W.heap.size + 1) 34 (cellsB L) (0, 0) _ rfl (setRow_heap _ _ _ _ _ _ A2.out) under16 rfl (info16' hL)) rfl ?_
      exact ⟨rfl, below_setRow H.out.2.2.2 (Nat.le_succ _) _⟩
end Go.Proofs.YtdhanapmknlobabDoor
