/-
  The document's Bytes and OfBytes.
-/
import Derived.Test.YtdhanapmknlobabDoorLanAll
import Derived.RegionTactic
import Derived.BigRegion
set_option linter.unusedVariables false
set_option linter.unusedSimpArgs false
namespace Go.Proofs.YtdhanapmknlobabDoor
open Go.RowKit Lan

/-- Of both halves the first k filled in. -/
def fill2 (f : Nat → Nat) (k : Nat) : List Nat := (List.range 16).map fun j => if j % 8 < k then f j else 0
theorem fill2_length (f : Nat → Nat) (k : Nat) : (fill2 f k).length = 16 := by simp [fill2]
theorem fill2_set (f : Nat → Nat) (k : Nat) (hk : k < 8) : ((fill2 f k).set k (f k)).set (8 + k) (f (8 + k)) = fill2 f (k + 1) := by
  apply List.ext_getElem
  · simp [fill2]
  · intro j h1 h2
    simp only [fill2, List.getElem_set, List.getElem_map, List.getElem_range]
    have hj : j < 16 := by simpa [fill2] using h2
    by_cases e : 8 + k = j
    · subst e; rw [if_pos rfl, if_pos (by omega)]
    · rw [if_neg e]
      by_cases e2 : k = j
      · subst e2; rw [if_pos rfl, if_pos (by omega)]
      · rw [if_neg e2]
        by_cases d : j % 8 < k
        · rw [if_pos d, if_pos (by omega)]
        · rw [if_neg d, if_neg (by omega)]
theorem fill2_all (f : Nat → Nat) : fill2 f 8 = (List.range 16).map f := by
  apply List.map_congr_left
  intro j hj
  rw [if_pos (by omega)]
theorem fill2_zero (f : Nat → Nat) : zero16 = fill2 f 0 := rfl

theorem byte_lo (v : Nat × Nat) (k : Nat) (hk : k < 8) : laneN v 8 k = v.1 / 2 ^ (8 * k) % 2 ^ 8 := by
  unfold laneN; rw [if_pos (by omega), Nat.mul_comm]
theorem byte_hi (v : Nat × Nat) (k : Nat) (hk : k < 8) : laneN v 8 (8 + k) = v.2 / 2 ^ (8 * k) % 2 ^ 8 := by
  unfold laneN; rw [if_neg (by omega), show (8 + k) * 8 - 64 = 8 * k by omega]
theorem byte_wrap (x a : Nat) : IntKind.u8.wrap ((x : Int) / 2 ^ a) = ((x / 2 ^ a % 2 ^ 8 : Nat) : Int) := by
  have e : (x : Int) / 2 ^ a = ((x / 2 ^ a : Nat) : Int) := by simp
  rw [e, IntKind.wrap_u8]; omega

set_option maxHeartbeats 1000000 in
theorem rbytes_calls (v : Nat × Nat) (W : World) :
    Calls Tryd.prog 28 #[vecV v] W fun e W' => e = .returned (arrV (listN v 8)) ∧ Below W.heap.size W W' := by
  have FULL : Hide (fill2 (laneN v 8) 8 = listN v 8) := hide (fill2_all (laneN v 8))
  have BL := hide (byte_lo v)
  have BH := hide (byte_hi v)
  generalize hf : laneN v 8 = f at *
  generalize hL : listN v 8 = L at *
  clear hf hL
  obtain ⟨lo, hi⟩ := v
  unfold vecV
  simp only at BL BH ⊢
  go_enter Tryd.func28, Tryd.ntmps28
  go_wp2_with fail
  go_loopw [4] (fun x wr => ∃ k : Nat, x = .int .i64 (k : Int) ∧ k ≤ 8 ∧ VBlk wr W.heap.size (lo, hi) ∧ Blk wr (W.heap.size + 1) zero16 ∧ Blk wr (W.heap.size + 2) (fill2 f k) ∧ Below W.heap.size W wr) (fun x _ => 8 - (intOf x).toNat)
  case atStart =>
    refine ⟨0, rfl, by omega, alloc_past (alloc_past (alloc_at rfl)), alloc_past (alloc_at (by simp)), alloc_at (by simp), ?_⟩
    exact (((Below.refl _ _).alloc (Nat.le_refl _) _).alloc (by simp) _).alloc (by simp; omega) _
  case round =>
    obtain ⟨k, rfl, hk, a1, a2, a3, a4⟩ := hrel
    by_cases c : k < 8
    · have c1 : (k : Int) < 8 := by omega
      have h0 := a1.c0
      have h1 := a1.c1
      simp only at h0 h1
      have hc : wr.cell? ⟨W.heap.size + 1 + 1, k, none⟩ = some (.int .u8 (at0 (fill2 f k) k : Int)) := a3.cell k (by rw [fill2_length]; omega)
      have hc2 : wr.cell? ⟨W.heap.size + 1 + 1, 8 + k, none⟩ = some (.int .u8 (at0 (fill2 f k) (8 + k) : Int)) := a3.cell (8 + k) (by rw [fill2_length]; omega)
      have hz : wr.frozen? ⟨W.heap.size + 1 + 1, k, none⟩ = false := a3.frozen k
      have hz2 : wr.frozen? ⟨W.heap.size + 1 + 1, 8 + k, none⟩ = false := a3.frozen (8 + k)
      have E1 := byte_wrap lo (8 * k)
      have E2 := byte_wrap hi (8 * k)
      rw [← BL.out k c] at E1
      rw [← BH.out k c] at E2
      have A := hide (⟨a1, a2, a3, a4⟩ : VBlk wr W.heap.size (lo, hi) ∧ Blk wr (W.heap.size + 1) zero16 ∧ Blk wr (W.heap.size + 2) (fill2 f k) ∧ Below W.heap.size W wr)
      have ST := hide (fill2_set f k c)
      clear a1 a2 a3 a4 BL BH
      generalize f k = x at *
      generalize f (8 + k) = y at *
      go_wp2
      go_roundw
      case rel =>
        obtain ⟨a1, a2, a3, a4⟩ := A.out
        refine ⟨k + 1, by go_num, by omega, (a1.other (by omega) _ _).other (by omega) _ _, (a2.other (by omega) _ _).other (by omega) _ _, ?_, (a4.setCell (by simp; omega) _).setCell (by simp; omega) _⟩
        rw [← ST.out]; exact (a3.set k x).set (8 + k) y
      case measure => simp [intOf]; omega
    · obtain rfl : k = 8 := by omega
      have hL : L.length = 16 := by rw [← FULL.out]; exact fill2_length f 8
      rw [FULL.out] at a3
      have A3 := hide a3
      have A2 := hide a2
      have A4 := hide a4
      clear a1 a2 a3 a4 BL BH
      go_wp2_with (first | refine wpList_load_row rfl 34 _ rfl (W.heap.size + 1 + 1) rfl 34 (cellsB L) (0, 0) _ A3.out under16 rfl (info16' hL) ?_ | refine wpList_store_row rfl 34 _ _ rfl (W.heap.size + 1) (cellsB L) rfl rfl 34 (cellsB zero16) A2.out (info16' hL) (by rw [cellsB_size, cellsB_size, hL]; rfl) (cellsB_one L) ?_)
      refine bodyPost_ret (v := .agg (cellsB L)) (results_cell_row (by rfl) _ _ (W.heap.size + 1) 34 (cellsB L) (0, 0) _ rfl (setRow_heap _ _ _ _ _ _ A2.out) under16 rfl (info16' hL)) rfl ?_
      exact ⟨rfl, below_setRow A4.out (Nat.le_succ _) _⟩

/-- The number of the d bytes from place i on. -/
def hornD (b : Nat → Nat) : Nat → Nat → Nat
  | _, 0 => 0
  | i, d + 1 => 2 ^ 8 * hornD b (i + 1) d + b i

theorem tb_horn {b : Nat → Nat} (hb : ∀ i, b i < 2 ^ 8) : ∀ (d i j : Nat), (hornD b i d).testBit j = (decide (j < 8 * d) && (b (i + j / 8)).testBit (j % 8))
  | 0, i, j => by simp [hornD]
  | d + 1, i, j => by
    rw [hornD, Nat.testBit_two_pow_mul_add _ (hb i), tb_horn hb d]
    by_cases c : j < 8
    · rw [if_pos c, show j / 8 = 0 by omega, show j % 8 = j by omega]
      simp [show j < 8 * (d + 1) by omega]
    · rw [if_neg c, show i + 1 + (j - 8) / 8 = i + j / 8 by omega, show (j - 8) % 8 = j % 8 by omega]
      by_cases e : j < 8 * (d + 1)
      · simp [e, show j - 8 < 8 * d by omega]
      · simp [e, show ¬ j - 8 < 8 * d by omega]
theorem horn_lt {b : Nat → Nat} (hb : ∀ i, b i < 2 ^ 8) (d i : Nat) : hornD b i d < 2 ^ (8 * d) := by
  apply Nat.lt_pow_two_of_testBit
  intro j hj
  rw [tb_horn hb]; simp [show ¬ j < 8 * d by omega]

/-- Both words of sixteen bytes are their vector. -/
theorem horn_vec {L : List Nat} (hb : Lanes 8 L) : (hornD (at0 L) 0 8, hornD (at0 L) 8 8) = vecN 8 L := by
  refine vec_ext ⟨horn_lt hb 8 0, horn_lt hb 8 8⟩ (vecTo_ok (.inl rfl) hb _ (Nat.le_refl _)) fun k hk => ?_
  rw [bv_vec (.inl rfl) hb k hk]
  unfold bv
  split
  · next c => simp only []; rw [tb_horn hb, Nat.zero_add]; simp [show k < 8 * 8 by omega]
  · next c => simp only []; rw [tb_horn hb, show 8 + (k - 64) / 8 = k / 8 by omega, show (k - 64) % 8 = k % 8 by omega]; simp [show k - 64 < 8 * 8 by omega]

end Go.Proofs.YtdhanapmknlobabDoor
