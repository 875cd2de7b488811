/-
  LanRef1, LanRef2, LanRef3, VinRows.
-/
import Derived.Test.YtpeckiaimellmaaDoorPkLan
import Derived.RegionTactic
import Derived.BigRegion
import Derived.OwnWalk
import Derived.Maps.AppendAt
/-
  The document's Bytes and OfBytes.
-/
set_option linter.unusedVariables false
set_option linter.unusedSimpArgs false
namespace Go.Proofs.YtpeckiaimellmaaDoor
open Go.RowKit Lan

/-- Of both halves the first k filled in. -/
def fill2 (f : Nat → Nat) (k : Nat) : List Nat := (List.range 16).map fun j => if j % 8 < k then f j else 0
theorem fill2_length (f : Nat → Nat) (k : Nat) : (fill2 f k).length = 16 := by simp [fill2]
theorem fill2_set (f : Nat → Nat) (k : Nat) (hk : k < 8) : ((fill2 f k).set k (f k)).set (8 + k) (f (8 + k)) = fill2 f (k + 1) := by
  apply List.ext_getElem
  · simp [fill2]
  · intro j h1 h2
    simp only [fill2, List.getElem_set, List.getElem_map, List.getElem_range]
    have hj : j < 16 := by simpa [fill2] using h2
    by_cases e : 8 + k = j
    · subst e; rw [if_pos rfl, if_pos (by omega)]
    · rw [if_neg e]
      by_cases e2 : k = j
      · subst e2; rw [if_pos rfl, if_pos (by omega)]
      · rw [if_neg e2]
        by_cases d : j % 8 < k
        · rw [if_pos d, if_pos (by omega)]
        · rw [if_neg d, if_neg (by omega)]
theorem fill2_all (f : Nat → Nat) : fill2 f 8 = (List.range 16).map f := by
  apply List.map_congr_left
  intro j hj
  rw [if_pos (by omega)]
theorem fill2_zero (f : Nat → Nat) : zero16 = fill2 f 0 := rfl

theorem byte_lo (v : Nat × Nat) (k : Nat) (hk : k < 8) : laneN v 8 k = v.1 / 2 ^ (8 * k) % 2 ^ 8 := by
  unfold laneN; rw [if_pos (by omega), Nat.mul_comm]
theorem byte_hi (v : Nat × Nat) (k : Nat) (hk : k < 8) : laneN v 8 (8 + k) = v.2 / 2 ^ (8 * k) % 2 ^ 8 := by
  unfold laneN; rw [if_neg (by omega), show (8 + k) * 8 - 64 = 8 * k by omega]
theorem byte_wrap (x a : Nat) : IntKind.u8.wrap ((x : Int) / 2 ^ a) = ((x / 2 ^ a % 2 ^ 8 : Nat) : Int) := by
  have e : (x : Int) / 2 ^ a = ((x / 2 ^ a : Nat) : Int) := by simp
  rw [e, IntKind.wrap_u8]; omega

set_option maxHeartbeats 1000000 in
theorem rbytes_calls (v : Nat × Nat) (W : World) :
    Calls Tryd.prog 67 #[vecV v] W fun e W' => e = .returned (arrV (listN v 8)) ∧ Below W.heap.size W W' := by
  have FULL : Hide (fill2 (laneN v 8) 8 = listN v 8) := hide (fill2_all (laneN v 8))
  have BL := hide (byte_lo v)
  have BH := hide (byte_hi v)
  generalize hf : laneN v 8 = f at *
  generalize hL : listN v 8 = L at *
  clear hf hL
  obtain ⟨lo, hi⟩ := v
  unfold vecV
  simp only at BL BH ⊢
  go_enter Tryd.func67, Tryd.ntmps67
  go_wp2_with fail
  go_loopw [4] (fun x wr => ∃ k : Nat, x = .int .i64 (k : Int) ∧ k ≤ 8 ∧ VBlk wr W.heap.size (lo, hi) ∧ Blk wr (W.heap.size + 1) zero16 ∧ Blk wr (W.heap.size + 2) (fill2 f k) ∧ Below W.heap.size W wr) (fun x _ => 8 - (intOf x).toNat)
  case atStart =>
    refine ⟨0, rfl, by omega, alloc_past (alloc_past (alloc_at rfl)), alloc_past (alloc_at (by simp)), alloc_at (by simp), ?_⟩
    exact (((Below.refl _ _).alloc (Nat.le_refl _) _).alloc (by simp) _).alloc (by simp; omega) _
  case round =>
    obtain ⟨k, rfl, hk, a1, a2, a3, a4⟩ := hrel
    by_cases c : k < 8
    · have c1 : (k : Int) < 8 := by omega
      have h0 := a1.c0
      have h1 := a1.c1
      simp only at h0 h1
      have hc : wr.cell? ⟨W.heap.size + 1 + 1, k, none⟩ = some (.int .u8 (at0 (fill2 f k) k : Int)) := a3.cell k (by rw [fill2_length]; omega)
      have hc2 : wr.cell? ⟨W.heap.size + 1 + 1, 8 + k, none⟩ = some (.int .u8 (at0 (fill2 f k) (8 + k) : Int)) := a3.cell (8 + k) (by rw [fill2_length]; omega)
      have hz : wr.frozen? ⟨W.heap.size + 1 + 1, k, none⟩ = false := a3.frozen k
      have hz2 : wr.frozen? ⟨W.heap.size + 1 + 1, 8 + k, none⟩ = false := a3.frozen (8 + k)
      have E1 := byte_wrap lo (8 * k)
      have E2 := byte_wrap hi (8 * k)
      rw [← BL.out k c] at E1
      rw [← BH.out k c] at E2
      have A := hide (⟨a1, a2, a3, a4⟩ : VBlk wr W.heap.size (lo, hi) ∧ Blk wr (W.heap.size + 1) zero16 ∧ Blk wr (W.heap.size + 2) (fill2 f k) ∧ Below W.heap.size W wr)
      have ST := hide (fill2_set f k c)
      clear a1 a2 a3 a4 BL BH
      generalize f k = x at *
      generalize f (8 + k) = y at *
      go_wp2
      go_roundw
      case rel =>
        obtain ⟨a1, a2, a3, a4⟩ := A.out
        refine ⟨k + 1, by go_num, by omega, (a1.other (by omega) _ _).other (by omega) _ _, (a2.other (by omega) _ _).other (by omega) _ _, ?_, (a4.setCell (by simp; omega) _).setCell (by simp; omega) _⟩
        rw [← ST.out]; exact (a3.set k x).set (8 + k) y
      case measure => simp [intOf]; omega
    · obtain rfl : k = 8 := by omega
      have hL : L.length = 16 := by rw [← FULL.out]; exact fill2_length f 8
      rw [FULL.out] at a3
      have A3 := hide a3
      have A2 := hide a2
      have A4 := hide a4
      clear a1 a2 a3 a4 BL BH
      go_wp2_with (first | refine wpList_load_row rfl 70 _ rfl (W.heap.size + 1 + 1) rfl 70 (cellsB L) (0, 0) _ A3.out under16 rfl (info16' hL) ?_ | refine wpList_store_row rfl 70 _ _ rfl (W.heap.size + 1) (cellsB L) rfl rfl 70 (cellsB zero16) A2.out (info16' hL) (by rw [cellsB_size, cellsB_size, hL]; rfl) (cellsB_one L) ?_)
      refine bodyPost_ret (v := .agg (cellsB L)) (results_cell_row (by rfl) _ _ (W.heap.size + 1) 70 (cellsB L) (0, 0) _ rfl (setRow_heap _ _ _ _ _ _ A2.out) under16 rfl (info16' hL)) rfl ?_
      exact ⟨rfl, below_setRow A4.out (Nat.le_succ _) _⟩

/-- The number of the d bytes from place i on. -/
def hornD (b : Nat → Nat) : Nat → Nat → Nat
  | _, 0 => 0
  | i, d + 1 => 2 ^ 8 * hornD b (i + 1) d + b i

theorem tb_horn {b : Nat → Nat} (hb : ∀ i, b i < 2 ^ 8) : ∀ (d i j : Nat), (hornD b i d).testBit j = (decide (j < 8 * d) && (b (i + j / 8)).testBit (j % 8))
  | 0, i, j => by simp [hornD]
  | d + 1, i, j => by
    rw [hornD, Nat.testBit_two_pow_mul_add _ (hb i), tb_horn hb d]
    by_cases c : j < 8
    · rw [if_pos c, show j / 8 = 0 by omega, show j % 8 = j by omega]
      simp [show j < 8 * (d + 1) by omega]
    · rw [if_neg c, show i + 1 + (j - 8) / 8 = i + j / 8 by omega, show (j - 8) % 8 = j % 8 by omega]
      by_cases e : j < 8 * (d + 1)
      · simp [e, show j - 8 < 8 * d by omega]
      · simp [e, show ¬ j - 8 < 8 * d by omega]
theorem horn_lt {b : Nat → Nat} (hb : ∀ i, b i < 2 ^ 8) (d i : Nat) : hornD b i d < 2 ^ (8 * d) := by
  apply Nat.lt_pow_two_of_testBit
  intro j hj
  rw [tb_horn hb]; simp [show ¬ j < 8 * d by omega]

/-- Both words of sixteen bytes are their vector. -/
theorem horn_vec {L : List Nat} (hb : Lanes 8 L) : (hornD (at0 L) 0 8, hornD (at0 L) 8 8) = vecN 8 L := by
  refine vec_ext ⟨horn_lt hb 8 0, horn_lt hb 8 8⟩ (vecTo_ok (.inl rfl) hb _ (Nat.le_refl _)) fun k hk => ?_
  rw [bv_vec (.inl rfl) hb k hk]
  unfold bv
  split
  · next c => simp only []; rw [tb_horn hb, Nat.zero_add]; simp [show k < 8 * 8 by omega]
  · next c => simp only []; rw [tb_horn hb, show 8 + (k - 64) / 8 = k / 8 by omega, show (k - 64) % 8 = k % 8 by omega]; simp [show k - 64 < 8 * 8 by omega]

set_option maxHeartbeats 1000000 in
theorem rofBytes_calls (L : List Nat) (hL : L.length = 16) (hb : Lanes 8 L) (W : World) :
    Calls Tryd.prog 74 #[arrV L] W fun e W' => e = .returned (vecV (vecN 8 L)) ∧ Below W.heap.size W W' := by
  have FULL := hide (horn_vec hb)
  have HL := hide hL
  have LB := hide (fun i => hb i)
  have HT := hide (fun d i => horn_lt (b := at0 L) hb d i)
  obtain ⟨⟨fp, fq⟩, hF⟩ : ∃ F, vecN 8 L = F := ⟨_, rfl⟩
  rw [hF] at FULL ⊢
  clear hb hL hF
  unfold arrV
  go_enter Tryd.func74, Tryd.ntmps74
  go_wp2_with fail
  go_loopw [4] (fun x wr => ∃ k : Nat, x = .int .i64 ((k : Int) - 1) ∧ k ≤ 8 ∧ Blk wr W.heap.size L ∧ VBlk wr (W.heap.size + 1) (0, 0) ∧ VBlk wr (W.heap.size + 2) (hornD (at0 L) k (8 - k), hornD (at0 L) (8 + k) (8 - k)) ∧ Below W.heap.size W wr) (fun x _ => (intOf x + 1).toNat)
  case atStart =>
    refine ⟨8, rfl, by omega, alloc_past (alloc_past (alloc_at rfl)), alloc_past (alloc_at (by simp)), alloc_at (by simp), ?_⟩
    exact (((Below.refl _ _).alloc (Nat.le_refl _) _).alloc (by simp) _).alloc (by simp; omega) _
  case round =>
    obtain ⟨k, rfl, hk, a1, a2, a3, a4⟩ := hrel
    cases k with
    | zero =>
      rw [show (8 - 0) = 8 from rfl, show 8 + 0 = 8 from rfl, FULL.out] at a3
      have h0 := a3.c0
      have h1 := a3.c1
      have g0 := a2.c0
      have g1 := a2.c1
      have z0 := a2.frozen 0
      have z1 := a2.frozen 1
      simp only at h0 h1
      have A2 := hide a2
      have A4 := hide a4
      clear a1 a2 a3 a4 LB HT
      go_wp2
      refine bodyPost_ret (v := vecV (fp, fq)) ((A2.out.set2 fp fq).result (by rfl) _ rfl) rfl ?_
      exact ⟨rfl, (A4.out.setCell (by simp) _).setCell (by simp) _⟩
    | succ k =>
      have e0 : ((k + 1 : Nat) : Int) - 1 = (k : Int) := by omega
      rw [e0]
      have c1 : (k : Int) < 8 := by omega
      have e8 : 8 - k = (8 - (k + 1)) + 1 := by omega
      have S1 : Hide (2 ^ 8 * hornD (at0 L) (k + 1) (8 - (k + 1)) + at0 L k = hornD (at0 L) k (8 - k)) := hide (by rw [e8]; rfl)
      have S2 : Hide (2 ^ 8 * hornD (at0 L) (8 + (k + 1)) (8 - (k + 1)) + at0 L (8 + k) = hornD (at0 L) (8 + k) (8 - k)) := hide (by rw [e8]; rfl)
      have b1 := HT.out (8 - (k + 1)) (k + 1)
      have b2 := HT.out (8 - (k + 1)) (8 + (k + 1))
      have b3 : 2 ^ (8 * (8 - (k + 1))) ≤ 2 ^ 56 := Nat.pow_le_pow_right (by decide) (by omega)
      have l1 := LB.out k
      have l2 := LB.out (8 + k)
      have hk1 := a1.cell k (by rw [HL.out]; omega)
      have hk2 := a1.cell (8 + k) (by rw [HL.out]; omega)
      generalize hornD (at0 L) (k + 1) (8 - (k + 1)) = lo at *
      generalize hornD (at0 L) (8 + (k + 1)) (8 - (k + 1)) = hi at *
      generalize at0 L k = x at *
      generalize at0 L (8 + k) = y at *
      have h0 := a3.c0
      have h1 := a3.c1
      have z0 := a3.frozen 0
      have z1 := a3.frozen 1
      simp only at h0 h1
      obtain ⟨m, hm⟩ : ∃ m, 256 * lo = m := ⟨_, rfl⟩
      obtain ⟨n, hn⟩ : ∃ n, 256 * hi = n := ⟨_, rfl⟩
      obtain ⟨p, hp⟩ : ∃ p, m + x = p := ⟨_, rfl⟩
      obtain ⟨q, hq⟩ : ∃ q, n + y = q := ⟨_, rfl⟩
      have E1 : IntKind.u64.wrap (256 * (lo : Int)) = (m : Int) := by rw [IntKind.wrap_u64]; omega
      have E2 : IntKind.u64.wrap (256 * (hi : Int)) = (n : Int) := by rw [IntKind.wrap_u64]; omega
      have E3 : IntKind.u64.wrap ((m : Int) + (x : Int)) = (p : Int) := by rw [IntKind.wrap_u64]; omega
      have E4 : IntKind.u64.wrap ((n : Int) + (y : Int)) = (q : Int) := by rw [IntKind.wrap_u64]; omega
      have E5 : IntKind.u64.wrap (x : Int) = (x : Int) := by rw [IntKind.wrap_u64]; omega
      have E6 : IntKind.u64.wrap (y : Int) = (y : Int) := by rw [IntKind.wrap_u64]; omega
      have P1 : Hide (p = hornD (at0 L) k (8 - k)) := hide (by rw [← S1.out]; omega)
      have P2 : Hide (q = hornD (at0 L) (8 + k) (8 - k)) := hide (by rw [← S2.out]; omega)
      have A := hide (⟨a1, a2, a3, a4⟩ : _ ∧ _ ∧ _ ∧ _)
      clear a1 a2 a3 a4 hm hn hp hq b1 b2 b3 l1 l2 S1 S2 e8 LB HT e0
      go_wp2_with fail
      go_region
      go_wp2_with fail
      go_region
      go_wp2
      go_roundw
      case rel =>
        obtain ⟨a1, a2, a3, a4⟩ := A.out
        refine ⟨k, rfl, by omega, ?_, ?_, ?_, ?_⟩
        · exact (heap_setCell_other _ _ _ _ (by simp; omega)).trans ((heap_setCell_other _ _ _ _ (by simp; omega)).trans a1)
        · exact (heap_setCell_other _ _ _ _ (by simp)).trans ((heap_setCell_other _ _ _ _ (by simp)).trans a2)
        · rw [← P1.out, ← P2.out]; exact a3.set2 p q
        · exact ((a4.setCell (by simp; omega) _).drew.setCell (by simp; omega) _).drew
      case measure => simp [intOf]
end Go.Proofs.YtpeckiaimellmaaDoor
/-
  The document's List.
-/
set_option linter.unusedVariables false
set_option linter.unusedSimpArgs false
namespace Go.Proofs.YtpeckiaimellmaaDoor
open Go.RowKit Lan

theorem one_cell64 (x : Int) : ∀ u ∈ [Value.int .u64 x], u.oneCell' = true := by
  intro u hu; simp at hu; subst hu; rfl
theorem own_shape {w : World} {base e size : Nat} {v : Value} {n : Nat} {xs : List Value} (h : w.ownsRow base e size v n xs) : ∃ a c, v = .slice a n c := by
  obtain ⟨_, ⟨rfl, rfl⟩ | ⟨g, cap, cur, rfl, _⟩⟩ := h
  · exact ⟨_, _, rfl⟩
  · exact ⟨_, _, rfl⟩

/-- A lane is the number of its bytes. -/
theorem lane_horn {v : Nat × Nat} {w i : Nat} (hw : IsW w) (hi : i < 128 / w) : hornD (at0 (listN v 8)) (i * (w / 8)) (w / 8) = laneN v w i := by
  have h8 : Lanes 8 (listN v 8) := list_lanes v 8
  have hd : 8 * (w / 8) = w := by rcases hw with rfl | rfl | rfl | rfl <;> decide
  refine lane_ext (w := w) ?_ (laneN_lt ..) fun j hj => ?_
  · have := horn_lt h8 (w / 8) (i * (w / 8)); rwa [hd] at this
  · rw [tb_horn h8, tb_lane hw hi, hd]
    have h1 : i * (w / 8) + j / 8 < 128 / 8 := by rcases hw with rfl | rfl | rfl | rfl <;> omega
    rw [at_list v 8 _ h1, tb_lane (.inl rfl) h1]
    have h2 : (i * (w / 8) + j / 8) * 8 + j % 8 = i * w + j := by rcases hw with rfl | rfl | rfl | rfl <;> omega
    rw [h2]
    simp [hj, show j % 8 < 8 by omega]

def pre (f : Nat → Nat) (i : Nat) : List Nat := (List.range i).map f
theorem pre_succ (f : Nat → Nat) (i : Nat) : pre f (i + 1) = pre f i ++ [f i] := by simp [pre, List.range_succ]
theorem pre_length (f : Nat → Nat) (i : Nat) : (pre f i).length = i := by simp [pre]

/-- A row of words of the call's own. -/
def OwnW (w : World) (base : Nat) (v : Value) (l : List Nat) : Prop := w.ownsRow base 23 1 v l.length (l.map fun n : Nat => Value.int .u64 (n : Int))

def ListPost (W : World) (c : Nat) (L : List Nat) (e : Ending) (W' : World) : Prop :=
  ∃ g cap cur, W.heap.size ≤ g ∧ e = .returned (.slice (some ⟨g, 0, none⟩) c cap) ∧ c ≤ cap ∧ W'.heap[g]? = some (.cells cur 23 (0, 0)) ∧ (∀ i, i < c → cur[i]? = some (.int .u64 (at0 L i : Int))) ∧ Below W.heap.size W W'

theorem own_post {w : World} {base : Nat} {v : Value} {l : List Nat} (h : OwnW w base v l) (h1 : 1 ≤ l.length) :
    ∃ g cap cur, base ≤ g ∧ v = .slice (some ⟨g, 0, none⟩) l.length cap ∧ l.length ≤ cap ∧ w.heap[g]? = some (.cells cur 23 (0, 0)) ∧ ∀ i, i < l.length → cur[i]? = some (.int .u64 (at0 l i : Int)) := by
  unfold OwnW at h
  obtain ⟨_, ⟨rfl, h0⟩ | ⟨g, cap, cur, rfl, hbase, hblk, hn, hm, hsz, htake⟩⟩ := h
  · omega
  · refine ⟨g, cap, cur, hbase, rfl, hn, hblk, fun i hi => ?_⟩
    have e : cur.toList[i]? = (cur.toList.take (l.length * 1))[i]? := by
      rw [List.getElem?_take, if_pos (by omega)]
    rw [← Array.getElem?_toList, e, htake]
    simp [at0, List.getElem?_eq_getElem hi]

theorem aux0 (j : Nat) : ((j + 1 : Nat) : Int) - 1 = (j : Int) := by omega
theorem aux1 {r d j : Nat} (h : r + d ≤ 16) (hj : j + 1 ≤ d) : r + j < 16 := by omega
theorem aux2 {d j : Nat} (h : d ≤ 8) : d - (j + 1) ≤ 7 := by omega
theorem aux3 {d j : Nat} (hj : j + 1 ≤ d) : d - (j + 1) + 1 = d - j := by omega
theorem aux4 {r d j : Nat} (h : r + d ≤ 16) (hj : j + 1 ≤ d) : (r : Int) + (j : Int) < 16 := by omega
theorem aux5 {d j : Nat} (hj : j + 1 ≤ d) : j ≤ d := by omega
theorem horn_step {b : Nat → Nat} (hb : ∀ i, b i < 2 ^ 8) (i d : Nat) (hd : d ≤ 7) :
    ∃ n m p z : Nat, hornD b (i + 1) d = n ∧ b i = z ∧ hornD b i (d + 1) = p ∧ IntKind.u64.wrap (256 * (n : Int)) = (m : Int) ∧ IntKind.u64.wrap ((m : Int) + (z : Int)) = (p : Int) ∧ IntKind.u64.wrap (z : Int) = (z : Int) := by
  have b1 := horn_lt hb d (i + 1)
  have b3 : 2 ^ (8 * d) ≤ 2 ^ 56 := Nat.pow_le_pow_right (by decide) (by omega)
  have l1 := hb i
  refine ⟨_, 256 * hornD b (i + 1) d, _, _, rfl, rfl, rfl, ?_, ?_, ?_⟩
  · rw [IntKind.wrap_u64]; generalize hornD b (i + 1) d = n at *; omega
  · rw [IntKind.wrap_u64, hornD]; generalize hornD b (i + 1) d = n at *; omega
  · rw [IntKind.wrap_u64]; omega

/-- The same, the row as one of the call's own. -/
def ListOwn (W : World) (L : List Nat) (e : Ending) (W' : World) : Prop := ∃ v, e = .returned v ∧ OwnW W' W.heap.size v L ∧ Below W.heap.size W W'
theorem OwnW.mono {w : World} {b b' : Nat} {v : Value} {l : List Nat} (h : OwnW w b v l) (hb : b' ≤ b) : OwnW w b' v l := by
  unfold OwnW at *
  obtain ⟨h1, h2 | ⟨g, cap, cur, e, hg, h3⟩⟩ := h
  · exact ⟨h1, .inl h2⟩
  · exact ⟨h1, .inr ⟨g, cap, cur, e, Nat.le_trans hb hg, h3⟩⟩

set_option maxHeartbeats 2000000 in
theorem rlist_own {w c : Nat} (hw : IsW w) (hc : 128 / w = c) (v : Nat × Nat) (W : World) :
    Calls Tryd.prog 30 #[vecV v, .int .i64 (w : Int)] W fun e W' => ListOwn W (listN v w) e W' := by
  obtain ⟨i0, hi, hz0, hz1, hz2⟩ := info_parts infoW
  have HB := hide (below_two W (.cells #[.int .u64 (v.1 : Int), .int .u64 (v.2 : Int)] 25))
  have CB := hide (fun W' => rbytes_calls v W')
  have HLB : Hide ((listN v 8).length = 16) := hide (listN_length v 8)
  have LB := hide (list_lanes v 8)
  obtain ⟨d, hd⟩ : ∃ d, w / 8 = d := ⟨_, rfl⟩
  have LH : Hide (∀ i, i < c → hornD (at0 (listN v 8)) (i * d) d = laneN v w i) := hide (fun i hi => by rw [← hd]; exact lane_horn hw (by omega))
  have HL : Hide (listN v w = pre (laneN v w) c) := hide (by rw [← hc]; rfl)
  have HLT := hide (fun i => Nat.lt_of_lt_of_le (laneN_lt v w i) (Nat.pow_le_pow_right (by decide) hw.le : 2 ^ w ≤ 2 ^ 64))
  have hq := q128 hw
  rw [hc] at hq
  have hq8 : (w : Int).tdiv 8 = (d : Int) := by rw [← hd]; rcases hw with rfl | rfl | rfl | rfl <;> rfl
  have hw1 : (w : Int) ≠ 0 := by have := hw.pos; omega
  have hw0 : ((w : Int) == 0) = false := by have := hw.pos; simp; omega
  have hc16 : c ≤ 16 := by rw [← hc]; rcases hw with rfl | rfl | rfl | rfl <;> decide
  have hc2 : 2 ≤ c := by rw [← hc]; rcases hw with rfl | rfl | rfl | rfl <;> decide
  have hd8 : d ≤ 8 := by rw [← hd]; rcases hw with rfl | rfl | rfl | rfl <;> decide
  have hwc : wrap64 (c : Int) = (c : Int) := by unfold wrap64; omega
  have hwd : wrap64 (d : Int) = (d : Int) := by unfold wrap64; omega
  have IDX : Hide (∀ i, i < c → i * w ≤ 128 ∧ i * d + d ≤ 16 ∧ i * w / 8 = i * d) := hide (fun i hi => by
    subst hd; subst hc; rcases hw with rfl | rfl | rfl | rfl <;> omega)
  generalize listN v 8 = B at *
  generalize listN v w = LW at *
  generalize laneN v w = f at *
  clear hw hc hd
  obtain ⟨lo, hi2⟩ := v
  unfold vecV at CB ⊢
  simp only at CB HB ⊢
  have IN := hide (info16' HLB.out)
  go_enter Tryd.func30, Tryd.ntmps30
  go_wp2_with fail
  refine (CB.out _).mono ?_
  rintro e w1 ⟨rfl, hb⟩
  have B1 := hide (HB.out.trans (hb.mono HB.out.size))
  clear hb HB CB
  have AL : Hide (Blk (w1.alloc (.cells (cellsB zero16) 70)) w1.heap.size zero16) := hide (alloc_at rfl)
  unfold arrV
  go_wp2_with (refine wpList_store_row rfl 70 _ _ rfl w1.heap.size (cellsB B) rfl rfl 70 (cellsB zero16) AL.out IN.out (by rw [cellsB_size, cellsB_size, HLB.out]; rfl) (cellsB_one B) ?_)
  obtain ⟨W2, hW2⟩ : ∃ W2, W2 = (w1.alloc (.cells (cellsB zero16) 70)).setRow w1.heap.size (cellsB B) := ⟨_, rfl⟩
  have S2 : Hide (W2.heap.size = w1.heap.size + 1) := hide (by rw [hW2]; simp)
  have BK : Hide (Blk W2 w1.heap.size B) := hide (by rw [hW2]; exact setRow_heap _ _ _ _ _ _ AL.out)
  have B2 : Hide (Below W.heap.size W W2) := hide (by rw [hW2]; exact below_setRow (B1.out.alloc B1.out.size _) B1.out.size _)
  go_loopw [6, 7] (fun v x wr => ∃ k : Nat, x = .int .i64 (k : Int) ∧ k ≤ c ∧ OwnW wr (w1.heap.size + 1) v (pre f k) ∧ Below (w1.heap.size + 1) W2 wr) (fun _ x _ => c - (intOf x).toNat)
  case atStart =>
    refine ⟨0, rfl, by omega, World.ownsRow_nil _ _ _ _, ?_⟩
    rw [hW2]
    exact Below.refl _ _
  case round =>
    obtain ⟨k, rfl, hk, hown, hbel⟩ := hrel
    clear hW2
    by_cases c0 : k < c
    · have c1 : (k : Int) < (c : Int) := by omega
      have c2 : (k : Int) < 16 := by omega
      obtain ⟨x1, x2, x3⟩ := IDX.out k c0
      have M : wrap64 ((k : Int) * (w : Int)) = ((k * w : Nat) : Int) := by
        have e : (k : Int) * (w : Int) = ((k * w : Nat) : Int) := by simp
        rw [e]; unfold wrap64; omega
      have T : Int.tdiv ((k * w : Nat) : Int) 8 = ((k * d : Nat) : Int) := by
        rw [← x3]; exact (Int.ofNat_tdiv (k * w) 8).symm
      have LK := hide (LH.out k c0)
      generalize k * w = q at *
      obtain ⟨r, hr⟩ : ∃ r, k * d = r := ⟨_, rfl⟩
      rw [hr] at T x2 LK
      have hwr : wrap64 (r : Int) = (r : Int) := by unfold wrap64; omega
      have BKr := hide (BK.out.later hbel (Nat.lt_succ_self _))
      have HBEL := hide hbel
      have HOWN := hide hown
      have X2 := hide x2
      clear x1 x2 x3 LH IDX hown hbel hr
      go_wp2_with fail
      go_loop [8, 9] (fun n x => ∃ j : Nat, j ≤ d ∧ x = .int .i64 ((j : Int) - 1) ∧ n = .int .u64 (hornD (at0 B) (r + j) (d - j) : Int)) (fun _ x => (intOf x + 1).toNat)
      case atStart => exact ⟨d, Nat.le_refl _, rfl, by rw [Nat.sub_self]; rfl⟩
      case round =>
        obtain ⟨j, hj, rfl, rfl⟩ := hrel
        cases j with
        | zero =>
          have LK2 := LK.out
          rw [Nat.add_zero, Nat.sub_zero, LK2]
          obtain ⟨va, vc, hva⟩ := own_shape HOWN.out
          rw [pre_length] at hva
          have hown := HOWN.out
          rw [hva] at hown ⊢
          unfold OwnW at hown
          rw [pre_length] at hown
          have C3 : Hid (k + 1 ≤ maxLen) := by show k + 1 ≤ maxLen; unfold maxLen; omega
          have C4 : Hid ((k + 1) * 8 ≤ 140737488355328) := by show (k + 1) * 8 ≤ 140737488355328; omega
          have C5 : Hid (∀ o : Obj, w1.heap.size + 1 ≤ (wr.alloc o).heap.size) := by intro o; have := HBEL.out.size; have := S2.out; simp; omega
          have PS := hide (pre_succ f k)
          clear LK LK2 hva BKr
          generalize f k = n at *
          go_wp2_with (at_builtin; refine wpList_append_own _ rfl _ _ 45 rfl (w1.heap.size + 1) 23 i0 (.int .u64 0) 1 8 Tryd.underlying45 hi hz0 hz1 hz2 rfl (by decide) _ _ _ rfl (hown.alloc _) ⟨wr.heap.size, 0, none⟩ 1 1 [.int .u64 (n : Int)] rfl rfl (cell_one_new _ _ _) (one_cell64 _) C3.out C4.out (C5.out _) ?_)
          intro v' w3 hown' hgrow _
          have hown2 : OwnW w3 (w1.heap.size + 1) v' (pre f (k + 1)) := by
            unfold OwnW
            rw [PS.out]; simpa [pre_length] using hown'
          have hbel2 : Below (w1.heap.size + 1) W2 w3 := (HBEL.out.alloc (by have := HBEL.out.size; have := S2.out; omega) _).grown hgrow (by have := HBEL.out.size; have := S2.out; simp; omega) (fun k hk => (hown.lt k hk).1)
          have H2 := hide hown2
          have H3 := hide hbel2
          clear hown2 hbel2 hown' hgrow hown
          go_wp2
          go_roundw
          case rel => exact ⟨k + 1, by go_num, by omega, H2.out, H3.out⟩
          case measure => simp [intOf]; omega
        | succ j =>
          have hx := X2.out
          rw [aux0 j]
          have hcell := BKr.out.cell (r + j) (by rw [HLB.out]; exact aux1 hx hj)
          obtain ⟨n, m, p, z, hn, hz, hp, E1, E3, E5⟩ := horn_step (b := at0 B) LB.out (r + j) (d - (j + 1)) (aux2 hd8)
          rw [Nat.add_assoc] at hn
          rw [aux3 hj] at hp
          rw [hz] at hcell
          rw [hn]
          have P1 : Hide (p = hornD (at0 B) (r + j) (d - j)) := hide hp.symm
          have hrj : (r : Int) + (j : Int) < 16 := aux4 hx hj
          have hj' := aux5 hj
          clear hn hz hp LK hx hq hq8 hwc hwd hi hz0 hz1 hz2
          go_wp2
          go_round
          case rel => exact ⟨j, hj', rfl, by rw [P1.out]⟩
          case measure => simp [intOf]
    · obtain rfl : k = c := by omega
      have HOWN := hide hown
      have HBEL := hide hbel
      clear hown hbel LH IDX
      go_wp2
      go_ret
      exact ⟨_, rfl, by rw [HL.out]; exact HOWN.out.mono (by have := B1.out.size; omega), B2.out.trans (HBEL.out.mono (by have := B1.out.size; omega))⟩

theorem rlist_calls {w c : Nat} (hw : IsW w) (hc : 128 / w = c) (v : Nat × Nat) (W : World) :
    Calls Tryd.prog 30 #[vecV v, .int .i64 (w : Int)] W fun e W' => ListPost W c (listN v w) e W' := by
  refine (rlist_own hw hc v W).mono fun e W' ⟨u, he, ho, hb⟩ => ?_
  have hc2 : 2 ≤ c := by rw [← hc]; rcases hw with rfl | rfl | rfl | rfl <;> decide
  have hl : (listN v w).length = c := by rw [listN_length, hc]
  obtain ⟨g, cap, cur, hg, hv, hcap, hblk, hcell⟩ := own_post ho (by rw [hl]; omega)
  rw [hl] at hv hcap hcell
  exact ⟨g, cap, cur, hg, by rw [he, hv], hcap, hblk, hcell, hb⟩
end Go.Proofs.YtpeckiaimellmaaDoor
/-
  The document's Vec.
-/
set_option linter.unusedVariables false
set_option linter.unusedSimpArgs false
namespace Go.Proofs.YtpeckiaimellmaaDoor
open Go.RowKit Lan

/-- The byte m of lanes of d bytes. -/
def byteOf (l : List Nat) (d m : Nat) : Nat := at0 l (m / d) / 2 ^ (8 * (m % d)) % 2 ^ 8

theorem vec_bytes {w : Nat} {l : List Nat} (hw : IsW w) (hl : Lanes w l) : vecN 8 (fillTo (byteOf l (w / 8)) 16) = vecN w l := by
  have h8 : Lanes 8 (fillTo (byteOf l (w / 8)) 16) := by
    intro i
    rw [fill_all]
    by_cases c : i < 16
    · simp only [at0, List.getElem?_map, List.getElem?_range c, Option.map_some, Option.getD_some]
      exact Nat.mod_lt _ (by decide)
    · have e : ((List.range 16).map (byteOf l (w / 8)))[i]? = none := List.getElem?_eq_none (by simp; omega)
      unfold at0; rw [e]; exact Nat.two_pow_pos 8
  refine vec_ext (vecTo_ok (.inl rfl) h8 _ (Nat.le_refl _)) (vecTo_ok hw hl _ (Nat.le_refl _)) fun k hk => ?_
  rw [bv_vec (.inl rfl) h8 k hk, bv_vec hw hl k hk, fill_all]
  have c : k / 8 < 16 := by omega
  simp only [at0, List.getElem?_map, List.getElem?_range c, Option.map_some, Option.getD_some]
  unfold byteOf
  rw [Nat.testBit_mod_two_pow, Nat.testBit_div_two_pow]
  have e1 : k / 8 / (w / 8) = k / w := by rcases hw with rfl | rfl | rfl | rfl <;> omega
  have e2 : k % 8 + 8 * (k / 8 % (w / 8)) = k % w := by rcases hw with rfl | rfl | rfl | rfl <;> omega
  rw [e1, e2]
  simp [show k % 8 < 8 by omega, at0]

def VecAt (W : World) (g0 g1 : Nat) (L : List Nat) (wr : World) : Prop := VBlk wr g0 (0, 0) ∧ Blk wr g1 L ∧ Below W.heap.size W wr

theorem tdiv8 (q : Nat) : Int.tdiv (q : Int) 8 = ((q / 8 : Nat) : Int) := (Int.ofNat_tdiv q 8).symm
theorem wrap64_nat {q : Nat} (h : q ≤ 1000) : wrap64 (q : Int) = (q : Int) := by unfold wrap64; omega

/-- What the inner round of Vec reckons, with nothing beside it. -/
theorem vec_round {w d c i j : Nat} (hw : IsW w) (hc : 128 / w = c) (hd : w / 8 = d) (hi : i < c) (hj : j < d) :
    ∃ q r m s : Nat, i * w = q ∧ q / 8 = r ∧ r + j = m ∧ 8 * j = s ∧ m = i * d + j ∧ m < 16 ∧ s < 64 ∧ m / d = i ∧ m % d = j ∧
      wrap64 ((i : Int) * (w : Int)) = (q : Int) ∧ Int.tdiv (q : Int) 8 = (r : Int) ∧ wrap64 (r : Int) = (r : Int) ∧ wrap64 ((r : Int) + (j : Int)) = (m : Int) ∧ wrap64 (8 * (j : Int)) = (s : Int) ∧ IntKind.u64.wrap (s : Int) = (s : Int) := by
  refine ⟨i * w, i * w / 8, i * w / 8 + j, 8 * j, rfl, rfl, rfl, rfl, ?_⟩
  have e : (i : Int) * (w : Int) = ((i * w : Nat) : Int) := by simp
  have h1 : i * w / 8 + j = i * d + j ∧ i * w ≤ 128 ∧ i * d + j < 16 ∧ 8 * j < 64 ∧ (i * d + j) / d = i ∧ (i * d + j) % d = j := by
    subst hd; subst hc
    rcases hw with rfl | rfl | rfl | rfl <;> simp only [Nat.reduceDiv] at * <;> omega
  obtain ⟨a1, a2, a3, a4, a5, a6⟩ := h1
  refine ⟨a1, by omega, a4, by rw [a1]; exact a5, by rw [a1]; exact a6, ?_, tdiv8 _, wrap64_nat (by omega), ?_, ?_, ?_⟩
  · rw [e]; exact wrap64_nat (by omega)
  · rw [← Int.natCast_add]; exact wrap64_nat (by omega)
  · have : (8 : Int) * (j : Int) = ((8 * j : Nat) : Int) := by simp
    rw [this]; exact wrap64_nat (by omega)
  · rw [IntKind.wrap_u64]; omega

set_option maxHeartbeats 2000000 in
theorem rvec_calls {w c : Nat} (hw : IsW w) (hc : 128 / w = c) (b off cap : Nat) (l : List Nat) (hl : Lanes w l) (W : World)
    (hcell : ∀ i, i < c → W.cell? ⟨b, off + i, none⟩ = some (.int .u64 (at0 l i : Int))) :
    Calls Tryd.prog 32 #[.int .i64 (w : Int), .slice (some ⟨b, off, none⟩) c cap] W fun e W' => e = .returned (vecV (vecN w l)) ∧ Below W.heap.size W W' := by
  obtain ⟨d, hd⟩ : ∃ d, w / 8 = d := ⟨_, rfl⟩
  have FIN := hide (vec_bytes hw hl)
  rw [hd] at FIN
  have h8 : Lanes 8 (fillTo (byteOf l d) 16) := by
    intro i
    rw [fill_all]
    by_cases c : i < 16
    · simp only [at0, List.getElem?_map, List.getElem?_range c, Option.map_some, Option.getD_some]
      exact Nat.mod_lt _ (by decide)
    · have e : ((List.range 16).map (byteOf l d))[i]? = none := List.getElem?_eq_none (by simp; omega)
      unfold at0; rw [e]; exact Nat.two_pow_pos 8
  have CO := hide (fun W' => rofBytes_calls (fillTo (byteOf l d) 16) (fill_length _ _) h8 W')
  rw [FIN.out] at CO
  have RD := hide (fun i j hi hj => vec_round (i := i) (j := j) hw hc hd hi hj)
  have hq := q128 hw
  rw [hc] at hq
  have hq8 : (w : Int).tdiv 8 = (d : Int) := by rw [← hd]; exact tdiv8 w
  have hw1 : (w : Int) ≠ 0 := by have := hw.pos; omega
  have hw0 : ((w : Int) == 0) = false := by have := hw.pos; simp; omega
  have hc16 : c ≤ 16 := by rw [← hc]; rcases hw with rfl | rfl | rfl | rfl <;> decide
  have hd8 : d ≤ 8 := by rw [← hd]; rcases hw with rfl | rfl | rfl | rfl <;> decide
  have hcd : Hide (c * d = 16) := hide (by rw [← hc, ← hd]; rcases hw with rfl | rfl | rfl | rfl <;> decide)
  have hwc : wrap64 (c : Int) = (c : Int) := wrap64_nat (by omega)
  have hwd : wrap64 (d : Int) = (d : Int) := wrap64_nat (by omega)
  have HC := hide hcell
  have IN := hide (info16' (fill_length (byteOf l d) 16))
  obtain ⟨⟨fp, fq⟩, hF⟩ : ∃ F, vecN w l = F := ⟨_, rfl⟩
  rw [hF] at CO ⊢
  have BY : Hide (∀ m, byteOf l d m = at0 l (m / d) / 2 ^ (8 * (m % d)) % 2 ^ 8) := hide (fun m => rfl)
  obtain ⟨f, hf⟩ : ∃ f, byteOf l d = f := ⟨_, rfl⟩
  rw [hf] at CO IN BY
  clear hl h8 hcell FIN hF hf hw hc hd
  unfold vecV arrV at CO
  simp only at CO
  have hq' := hide hq
  have hq8' := hide hq8
  go_enter Tryd.func32, Tryd.ntmps32
  go_wp2_with fail
  go_loopw [6] (fun x wr => ∃ k : Nat, x = .int .i64 (k : Int) ∧ k ≤ c ∧ VecAt W W.heap.size (W.heap.size + 1) (fillTo f (k * d)) wr) (fun x _ => c - (intOf x).toNat)
  case atStart =>
    refine ⟨0, rfl, by omega, alloc_past (alloc_at rfl), ?_, ((below_two _ _).alloc (by simp) _)⟩
    rw [Nat.zero_mul]
    exact alloc_at (by simp)
  case round =>
    obtain ⟨k, rfl, hk, hr⟩ := hrel
    by_cases c0 : k < c
    · have c1 : (k : Int) < (c : Int) := by omega
      have c2 : (k : Int) < 16 := by omega
      have H := hide hr
      clear hr
      go_wp2_with fail
      go_loopw [7] (fun x wr => ∃ j : Nat, x = .int .i64 (j : Int) ∧ j ≤ d ∧ VecAt W W.heap.size (W.heap.size + 1) (fillTo f (k * d + j)) wr) (fun x _ => d - (intOf x).toNat)
      case atStart => exact ⟨0, rfl, by omega, H.out⟩
      case round =>
        obtain ⟨j, rfl, hj, hr⟩ := hrel
        by_cases d0 : j < d
        · have d1 : (j : Int) < (d : Int) := Int.ofNat_lt.2 d0
          have d2 : (j : Int) < 8 := Int.ofNat_lt.2 (Nat.lt_of_lt_of_le d0 hd8)
          obtain ⟨q, r, m, s, z1, z2, z3, z4, hm, hm16, hs, hmd, hmm, E1, E2, E3, E4, E5, E6⟩ := RD.out k j c0 d0
          have hlk := cell_later hr.2.2 (HC.out k c0) (Nat.le_refl _)
          subst z4
          have hB := byte_wrap (at0 l k) (8 * j)
          have hfm : f m = at0 l k / 2 ^ (8 * j) % 2 ^ 8 := by rw [BY.out m, hmd, hmm]
          rw [← hfm] at hB
          rw [← hm] at hr
          have hcm : wr.cell? ⟨W.heap.size + 1, m, none⟩ = some (.int .u8 (at0 (fillTo f m) m : Int)) := hr.2.1.cell m (by rw [fill_length]; exact hm16)
          have hzm : wr.frozen? ⟨W.heap.size + 1, m, none⟩ = false := hr.2.1.frozen m
          have ST := hide (fill_set f m hm16)
          have K := hide hr
          have NX : Hide (k * d + (j + 1) = m + 1) := hide (by rw [hm]; rfl)
          have hm16' : (m : Int) < 16 := Int.ofNat_lt.2 hm16
          have HJ := hide (show j + 1 ≤ d from d0)
          clear hr H hfm hmd hmm z1 z2 z3 hm HC RD BY hq E5 E6 hs
          generalize at0 l k = n at *
          generalize f m = y at *
          clear hq8
          have hq8 := hq8'.out
          go_wp2
          go_roundw
          case rel =>
            obtain ⟨a1, a2, a3⟩ := K.out
            refine ⟨j + 1, by go_num, HJ.out, a1.other (by omega) _ _, ?_, a3.setCell (by simp) _⟩
            rw [NX.out, ← ST.out]; exact a2.set m y
          case measure => simp [intOf]; omega
        · obtain rfl : j = d := Nat.le_antisymm hj (Nat.le_of_not_lt d0)
          have K := hide hr
          have NX : Hide ((k + 1) * j = k * j + j) := hide (Nat.succ_mul k j)
          clear hr H RD BY HC hq
          go_wp2
          go_roundw
          case rel => exact ⟨k + 1, by go_num, by omega, by rw [NX.out]; exact K.out⟩
          case measure => simp [intOf]; omega
    · obtain rfl : k = c := by omega
      rw [hcd.out] at hr
      have H := hide hr
      clear hr RD BY HC
      go_wp2_with (refine wpList_load_row rfl 70 _ rfl (W.heap.size + 1) rfl 70 (cellsB (fillTo f 16)) (0, 0) _ H.out.2.1 under16 rfl IN.out ?_)
      refine (CO.out _).mono ?_
      rintro e w2 ⟨rfl, hb⟩
      have V2 := hide (H.out.1.later hb H.out.1.lt)
      have BN := hide (H.out.2.2.trans (hb.mono H.out.2.2.size))
      have g0 := V2.out.c0
      have g1 := V2.out.c1
      have z0 := V2.out.frozen 0
      have z1 := V2.out.frozen 1
      clear hb H
      go_wp2
      refine bodyPost_ret (v := vecV (fp, fq)) ((V2.out.set2 fp fq).result (by rfl) _ rfl) rfl ?_
      exact ⟨rfl, (BN.out.setCell (by simp) _).setCell (by simp) _⟩
end Go.Proofs.YtpeckiaimellmaaDoor
/-
  Rows of words in a block that may be longer; rows that are filled in from the front.
-/
set_option linter.unusedVariables false
set_option linter.unusedSimpArgs false
namespace Go.Proofs.YtpeckiaimellmaaDoor
open Go.RowKit Lan

/-- The first c words of the block g are those of L. -/
def XBlk (w : World) (g c : Nat) (L : List Nat) : Prop := ∃ cur, w.heap[g]? = some (.cells cur 23 (0, 0)) ∧ ∀ i, i < c → cur[i]? = some (.int .u64 (at0 L i : Int))
theorem XBlk.cell {w : World} {g c : Nat} {L : List Nat} (h : XBlk w g c L) (k : Nat) (hk : k < c) : w.cell? ⟨g, k, none⟩ = some (.int .u64 (at0 L k : Int)) := by
  obtain ⟨cur, hb, hc⟩ := h
  simp [World.cell?, hb, hc k hk]
theorem XBlk.frozen {w : World} {g c : Nat} {L : List Nat} (h : XBlk w g c L) (k : Nat) : w.frozen? ⟨g, k, none⟩ = false := by
  obtain ⟨cur, hb, hc⟩ := h
  exact frozen_of_row w g k _ _ hb
theorem XBlk.lt {w : World} {g c : Nat} {L : List Nat} (h : XBlk w g c L) : g < w.heap.size := by
  obtain ⟨cur, hb, hc⟩ := h
  exact (Array.getElem?_eq_some_iff.1 hb).1
theorem XBlk.later {w w' : World} {g c : Nat} {L : List Nat} (h : XBlk w g c L) {B : Nat} (hb : Below B w w') (hg : g < B) : XBlk w' g c L := by
  obtain ⟨cur, h1, hc⟩ := h
  exact ⟨cur, (hb.block g hg).trans h1, hc⟩
theorem XBlk.other {w : World} {g g' c : Nat} {L : List Nat} (h : XBlk w g c L) (hg : g ≠ g') (j : Nat) (x : Value) : XBlk (w.setCell ⟨g', j, none⟩ x) g c L := by
  obtain ⟨cur, h1, hc⟩ := h
  exact ⟨cur, (heap_setCell_other _ _ _ _ hg).trans h1, hc⟩
theorem XBlk.set {w : World} {g c : Nat} {L : List Nat} (h : XBlk w g c L) (hl : L.length = c) (k n : Nat) (hk : k < c) : XBlk (w.setCell ⟨g, k, none⟩ (.int .u64 (n : Int))) g c (L.set k n) := by
  obtain ⟨cur, h1, hc⟩ := h
  refine ⟨cur.setIfInBounds k (.int .u64 (n : Int)), heap_setCell_same w g k _ _ _ h1, fun i hi => ?_⟩
  have hks : k < cur.size := by
    have := hc k hk
    exact (Array.getElem?_eq_some_iff.1 this).1
  by_cases e : k = i
  · subst e
    simp [hks, at0, List.getElem?_set, hl, hk]
  · rw [Array.getElem?_setIfInBounds_ne e, hc i hi]
    simp [at0, List.getElem?_set, e]
theorem XBlk.row {w : World} {g c : Nat} {L : List Nat} (h : XBlk w g c L) (hl : L.length = c) (hc : c ≤ 2 ^ 63 - 1) (h64 : ∀ i, at0 L i < 2 ^ 64) : RowW w (some ⟨g, 0, none⟩) c L :=
  ⟨hl, hc, h64, fun _ => ⟨g, 0, rfl, fun i hi => by rw [Nat.zero_add]; exact h.cell i hi⟩⟩
theorem XBlk.drewN {w : World} {g c : Nat} {L : List Nat} (h : XBlk w g c L) (n : Nat) : XBlk (w.drewN n) g c L := h

/-- What List answers. -/
theorem list_x {W W' : World} {c : Nat} {L : List Nat} {e : Ending} (h : ListPost W c L e W') : ∃ g cap, W.heap.size ≤ g ∧ e = .returned (.slice (some ⟨g, 0, none⟩) c cap) ∧ c ≤ cap ∧ XBlk W' g c L ∧ Below W.heap.size W W' := by
  obtain ⟨g, cap, cur, h1, h2, h3, h4, h5, h6⟩ := h
  exact ⟨g, cap, h1, h2, h3, ⟨cur, h4, h5⟩, h6⟩

/-- The first k of c by f, the others by g. -/
def mixC (c : Nat) (f g : Nat → Nat) (k : Nat) : List Nat := (List.range c).map fun j => if j < k then f j else g j
theorem mix_length (c : Nat) (f g : Nat → Nat) (k : Nat) : (mixC c f g k).length = c := by simp [mixC]
theorem mix_at (c : Nat) (f g : Nat → Nat) (k i : Nat) (hi : i < c) : at0 (mixC c f g k) i = if i < k then f i else g i := by
  simp [at0, mixC, List.getElem?_range hi]
theorem mix_set (c : Nat) (f g : Nat → Nat) (k : Nat) (hk : k < c) : (mixC c f g k).set k (f k) = mixC c f g (k + 1) := by
  apply List.ext_getElem
  · simp [mixC]
  · intro j h1 h2
    simp only [mixC, List.getElem_set, List.getElem_map, List.getElem_range]
    by_cases e : k = j
    · subst e; simp
    · by_cases d : j < k
      · simp [e, d, show j < k + 1 by omega]
      · simp [e, d, show ¬ j < k + 1 by omega]
theorem mix_all (c : Nat) (f g : Nat → Nat) : mixC c f g c = (List.range c).map f := by
  apply List.map_congr_left
  intro j hj
  simp at hj
  simp [hj]
theorem mix_zero (c : Nat) (f g : Nat → Nat) : mixC c f g 0 = (List.range c).map g := by
  apply List.map_congr_left
  intro j hj
  simp
theorem map_lanes {w c : Nat} {f : Nat → Nat} (h : ∀ i, i < c → f i < 2 ^ w) : Lanes w ((List.range c).map f) := by
  intro i
  by_cases d : i < c
  · simp only [at0, List.getElem?_map, List.getElem?_range d, Option.map_some, Option.getD_some]; exact h i d
  · have e : ((List.range c).map f)[i]? = none := List.getElem?_eq_none (by simp; omega)
    unfold at0; rw [e]; exact Nat.two_pow_pos w
end Go.Proofs.YtpeckiaimellmaaDoor
