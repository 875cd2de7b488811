/-
  lanes.All; the document's Words.
-/
import Derived.Test.YtdhanapmknlobaaDoorLanLists
import Derived.Deep.OwnRows
set_option linter.unusedVariables false
set_option linter.unusedSimpArgs false
namespace Go.Proofs.YtdhanapmknlobaaDoor
open Go.RowKit Lan

def cellsW (L : List Nat) : Array Value := (L.map fun n : Nat => Value.int .u64 (n : Int)).toArray
def WBlk (w : World) (g : Nat) (L : List Nat) : Prop := w.heap[g]? = some (.cells (cellsW L) 22 (0, 0))

theorem cellsW_size (L : List Nat) : (cellsW L).size = L.length := by simp [cellsW]
theorem cellsW_set (L : List Nat) (k n : Nat) : (cellsW L).setIfInBounds k (.int .u64 (n : Int)) = cellsW (L.set k n) := by
  apply Array.ext'
  simp [cellsW, List.map_set]
theorem cellsW_get (L : List Nat) (k : Nat) (hk : k < L.length) : (cellsW L)[k]? = some (.int .u64 (at0 L k : Int)) := by
  simp [cellsW, at0, List.getElem?_eq_getElem hk]
theorem WBlk.cell {w : World} {g : Nat} {L : List Nat} (h : WBlk w g L) (k : Nat) (hk : k < L.length) : w.cell? ⟨g, k, none⟩ = some (.int .u64 (at0 L k : Int)) := by
  unfold WBlk at h
  simp [World.cell?, h, cellsW_get L k hk]
theorem WBlk.frozen {w : World} {g : Nat} {L : List Nat} (h : WBlk w g L) (k : Nat) : w.frozen? ⟨g, k, none⟩ = false := frozen_of_row w g k _ _ h
theorem WBlk.lt {w : World} {g : Nat} {L : List Nat} (h : WBlk w g L) : g < w.heap.size := (Array.getElem?_eq_some_iff.1 h).1
theorem WBlk.later {w w' : World} {g : Nat} {L : List Nat} (h : WBlk w g L) {B : Nat} (hb : Below B w w') (hg : g < B) : WBlk w' g L := (hb.block g hg).trans h
theorem WBlk.set {w : World} {g : Nat} {L : List Nat} (h : WBlk w g L) (k n : Nat) : WBlk (w.setCell ⟨g, k, none⟩ (.int .u64 (n : Int))) g (L.set k n) := by
  unfold WBlk
  rw [heap_setCell_same w g k _ _ _ h, cellsW_set]
theorem WBlk.other {w : World} {g g' : Nat} {L : List Nat} (h : WBlk w g L) (hg : g ≠ g') (j : Nat) (x : Value) : WBlk (w.setCell ⟨g', j, none⟩ x) g L :=
  (heap_setCell_other _ _ _ _ hg).trans h
theorem WBlk.row {w : World} {g : Nat} {L : List Nat} (h : WBlk w g L) (hl : L.length ≤ 2 ^ 63 - 1) (hL : ∀ i, at0 L i < 2 ^ 64) : RowW w (some ⟨g, 0, none⟩) L.length L :=
  ⟨rfl, hl, hL, fun _ => ⟨g, 0, rfl, fun i hi => by rw [Nat.zero_add]; exact h.cell i hi⟩⟩

/-- The first k of c filled in. -/
def fillC (c : Nat) (f : Nat → Nat) (k : Nat) : List Nat := (List.range c).map fun j => if j < k then f j else 0
theorem fillC_length (c : Nat) (f : Nat → Nat) (k : Nat) : (fillC c f k).length = c := by simp [fillC]
theorem fillC_set (c : Nat) (f : Nat → Nat) (k : Nat) (hk : k < c) : (fillC c f k).set k (f k) = fillC c f (k + 1) := by
  apply List.ext_getElem
  · simp [fillC]
  · intro j h1 h2
    simp only [fillC, List.getElem_set, List.getElem_map, List.getElem_range]
    by_cases e : k = j
    · subst e; simp
    · by_cases d : j < k
      · simp [e, d, show j < k + 1 by omega]
      · simp [e, d, show ¬ j < k + 1 by omega]
theorem fillC_all (c : Nat) (f : Nat → Nat) : fillC c f c = (List.range c).map f := by
  apply List.map_congr_left
  intro j hj
  simp at hj
  simp [hj]
theorem fillC_zero (c : Nat) (f : Nat → Nat) : fillC c f 0 = List.replicate c 0 := by
  unfold fillC
  rw [List.eq_replicate_iff]
  simp

theorem made_words (n : Nat) : madeCells #[Value.int .u64 0] n = cellsW (List.replicate n 0) := by
  apply Array.ext'
  simp [madeCells, cellsW, List.eq_replicate_iff, Nat.mod_one]
theorem infoW : (Tryd.prog.info? 22).map (fun i => (i.zero, i.size, i.bytes)) = some (some (.int .u64 0), 1, 8) := by kernel_rfl

set_option maxHeartbeats 1000000 in
theorem lall_bad (v : Nat × Nat) (w : Int) (h : isW w = false) (W : World) (hT : WTabs W) :
    Calls Tryd.prog 14 #[vecV v, .int .i64 w] W fun e W' => e = .returned (.tuple #[.slice none 0 0, .int .i64 2]) ∧ Below W.heap.size W W' := by
  have BB : Below W.heap.size W (W.alloc (.cells #[.int .u64 (v.1 : Int), .int .u64 (v.2 : Int)] 24)) := below_two _ _
  have F := lisWidth_calls w _ (hT.later BB)
  rw [h] at F
  have F := hide F
  have HB := hide BB
  clear BB hT h
  unfold vecV
  go_enter Tryd.func14, Tryd.ntmps14
  go_wp2_with fail
  refine F.out.mono ?_
  rintro e w1 ⟨rfl, hb⟩
  have BN := hide (HB.out.trans (hb.mono HB.out.size))
  clear hb HB
  go_wp2
  refine bodyPost_ret (v := .tuple #[.slice none 0 0, .int .i64 2]) (by simp [results, Tryd.results14, go_sem]) rfl ?_
  exact ⟨rfl, BN.out⟩

def AllAt (g0 g1 : Nat) (W : World) (v : Nat × Nat) (L : List Nat) (wr : World) : Prop :=
  VBlk wr g0 v ∧ WBlk wr g1 L ∧ Below W.heap.size W wr
def AllPost (W : World) (c : Nat) (L : List Nat) (e : Ending) (W' : World) : Prop :=
  ∃ g, W.heap.size ≤ g ∧ e = .returned (.tuple #[.slice (some ⟨g, 0, none⟩) c c, .int .i64 0]) ∧ WBlk W' g L ∧ Below W.heap.size W W'

set_option maxHeartbeats 1000000 in
theorem lall_ok {w c : Nat} (hw : IsW w) (hc : 128 / w = c) (v : Nat × Nat) (hv : Vok v) (W : World) (hT : WTabs W) :
    Calls Tryd.prog 14 #[vecV v, .int .i64 (w : Int)] W fun e W' => AllPost W c (listN v w) e W' := by
  have BB : Below W.heap.size W (W.alloc (.cells #[.int .u64 (v.1 : Int), .int .u64 (v.2 : Int)] 24)) := below_two _ _
  have F := lisWidth_calls w _ (hT.later BB)
  rw [(isW_iff w).2 ⟨w, rfl, hw⟩] at F
  have F := hide F
  have HB := hide BB
  have VB : Hide (VBlk (W.alloc (.cells #[.int .u64 (v.1 : Int), .int .u64 (v.2 : Int)] 24)) W.heap.size v) := hide (alloc_at rfl)
  have FULL : Hide (fillC c (laneN v w) c = listN v w) := hide (by rw [fillC_all, ← hc]; rfl)
  have CL : Hide (∀ (k : Nat), k < c → ∀ W', Calls Tryd.prog 35 #[vecV v, .int .i64 (w : Int), .int .i64 (k : Int)] W' fun e W'' => e = .returned (.int .u64 (laneN v w k : Int)) ∧ Below W'.heap.size W' W'') := hide (fun k hk W' => lane_calls hw (by omega) v hv W')
  have hq := q128 hw
  rw [hc] at hq
  have hw0 : ((w : Int) == 0) = false := by have := hw.pos; simp; omega
  have hw1 : (w : Int) ≠ 0 := by have := hw.pos; omega
  have hc16 : c ≤ 16 := by rw [← hc]; rcases hw with rfl | rfl | rfl | rfl <;> decide
  have hwc : wrap64 (c : Int) = (c : Int) := by unfold wrap64; omega
  have hmk := run_make_row' (P := Tryd.prog) 32 22 (.int .u64 0) 8 Tryd.underlying32 infoW rfl .i64 .i64 c (by omega) (by omega)
  generalize laneN v w = f at *
  generalize listN v w = L at *
  clear BB hT hw hc hv
  obtain ⟨lo, hi⟩ := v
  unfold vecV at CL ⊢
  simp only at CL ⊢
  go_enter Tryd.func14, Tryd.ntmps14
  go_wp2_with fail
  refine F.out.mono ?_
  rintro e w1 ⟨rfl, hb⟩
  have BN := hide (HB.out.trans (hb.mono HB.out.size))
  have V1 := hide (VB.out.later hb VB.out.lt)
  have HG : Hide (W.heap.size < w1.heap.size) := hide V1.out.lt
  clear hb HB VB F
  go_wp2_with fail
  go_loopw [16] (fun x wr => ∃ k : Nat, x = .int .i64 (k : Int) ∧ k ≤ c ∧ AllAt W.heap.size w1.heap.size W (lo, hi) (fillC c f k) wr) (fun x _ => c - (intOf x).toNat)
  case atStart =>
    refine ⟨0, rfl, by omega, alloc_past V1.out, ?_, BN.out.alloc BN.out.size _⟩
    rw [fillC_zero, made_words]
    exact alloc_at rfl
  case round =>
    obtain ⟨k, rfl, hk, hr⟩ := hrel
    have HQ := hide hq
    have HM := hide hmk
    clear hq hmk
    by_cases c0 : k < c
    · have c1 : (k : Int) < (c : Int) := by omega
      have c2 : (k : Int) < 16 := by omega
      have CK := hide (CL.out k c0)
      have H := hide hr
      have h0 := hr.1.c0
      have h1 := hr.1.c1
      simp only at h0 h1
      have ST := hide (fillC_set c f k c0)
      have HC := hide c0
      clear hr CL
      generalize hn : f k = n at *
      clear hn
      go_wp2_with fail
      refine (CK.out _).mono ?_
      rintro e w2 ⟨rfl, hb⟩
      have K1 : Hide (AllAt W.heap.size w1.heap.size W (lo, hi) (fillC c f k) w2) := by
        obtain ⟨a1, a2, a3⟩ := H.out
        exact hide ⟨a1.later hb a1.lt, a2.later hb a2.lt, a3.trans (hb.mono a3.size)⟩
      have hc : w2.cell? ⟨w1.heap.size, k, none⟩ = some (.int .u64 (at0 (fillC c f k) k : Int)) := K1.out.2.1.cell k (by rw [fillC_length]; exact HC.out)
      have hz : w2.frozen? ⟨w1.heap.size, k, none⟩ = false := K1.out.2.1.frozen k
      clear h0 h1 H hb
      go_wp2
      go_roundw
      case rel =>
        obtain ⟨a1, a2, a3⟩ := K1.out
        have hg := HG.out
        refine ⟨k + 1, by go_num, by omega, a1.other (by omega) _ _, ?_, a3.setCell (by simp; omega) _⟩
        rw [← ST.out]; exact a2.set k n
      case measure => simp [intOf]; omega
    · obtain rfl : k = c := by omega
      have H := hide hr
      clear hr CL
      go_wp2
      refine bodyPost_ret (v := .tuple #[.slice (some ⟨w1.heap.size, 0, none⟩) k k, .int .i64 0]) (by simp [results, Tryd.results14, go_sem]) rfl ?_
      exact ⟨w1.heap.size, Nat.le_of_lt HG.out, rfl, by rw [← FULL.out]; exact H.out.2.1, H.out.2.2⟩

set_option maxHeartbeats 1000000 in
theorem words_calls (a b : Option Addr) (len ca cb : Nat) (l : List Nat) (W : World) (ha : RowW W a len l) (hb : RowW W b len l) :
    Calls Tryd.prog 20 #[.slice a len ca, .slice b len cb] W fun e W' => e = .returned (.bool true) ∧ ∃ n, W' = W.drewN n := by
  obtain ⟨h1, h2, h3, h4⟩ := ha
  obtain ⟨_, _, _, h5⟩ := hb
  have HA := hide h4
  have HB := hide h5
  clear h4 h5 h1 h3
  have hlen : (len : Int) ≤ 9223372036854775807 := by omega
  go_enter Tryd.func20, Tryd.ntmps20
  go_wp2_with fail
  go_loopw [5] (fun x wr => ∃ k : Nat, x = .int .i64 (k : Int) ∧ k ≤ len ∧ ∃ n, wr = W.drewN n) (fun x _ => len - (intOf x).toNat)
  case atStart => exact ⟨0, rfl, by omega, 0, rfl⟩
  case round =>
    obtain ⟨k, rfl, hk, n, rfl⟩ := hrel
    by_cases c : k < len
    · obtain ⟨ba, oa, rfl, hca⟩ := HA.out (by omega)
      obtain ⟨bb, ob, rfl, hcb⟩ := HB.out (by omega)
      have hka := hca k c
      have hkb := hcb k c
      generalize at0 l k = z at *
      have c1 : (k : Int) < (len : Int) := by omega
      clear hca hcb
      go_wp2_with fail
      go_quiet (fail)
      go_wp2
      go_roundw
      case rel => exact ⟨k + 1, by go_num, by omega, _, rfl⟩
      case measure => simp [intOf]; omega
    · obtain rfl : k = len := by omega
      go_wp2
      go_ret
      exact ⟨rfl, _, rfl⟩
end Go.Proofs.YtdhanapmknlobaaDoor
