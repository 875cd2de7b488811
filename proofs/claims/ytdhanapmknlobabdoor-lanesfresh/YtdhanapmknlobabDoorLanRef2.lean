/-
  The document's List.
-/
import Derived.Test.YtdhanapmknlobabDoorLanRef1
import Derived.OwnWalk
import Derived.Maps.AppendAt
set_option linter.unusedVariables false
set_option linter.unusedSimpArgs false
namespace Go.Proofs.YtdhanapmknlobabDoor
open Go.RowKit Lan

theorem one_cell64 (x : Int) : ∀ u ∈ [Value.int .u64 x], u.oneCell' = true := by
  intro u hu; simp at hu; subst hu; rfl
theorem own_shape {w : World} {base e size : Nat} {v : Value} {n : Nat} {xs : List Value} (h : w.ownsRow base e size v n xs) : ∃ a c, v = .slice a n c := by
  obtain ⟨_, ⟨rfl, rfl⟩ | ⟨g, cap, cur, rfl, _⟩⟩ := h
  · exact ⟨_, _, rfl⟩
  · exact ⟨_, _, rfl⟩

/-- A lane is the number of its bytes. -/
theorem lane_horn {v : Nat × Nat} {w i : Nat} (hw : IsW w) (hi : i < 128 / w) : hornD (at0 (listN v 8)) (i * (w / 8)) (w / 8) = laneN v w i := by
  have h8 : Lanes 8 (listN v 8) := list_lanes v 8
  have hd : 8 * (w / 8) = w := by rcases hw with rfl | rfl | rfl | rfl <;> decide
  refine lane_ext (w := w) ?_ (laneN_lt ..) fun j hj => ?_
  · have := horn_lt h8 (w / 8) (i * (w / 8)); rwa [hd] at this
  · rw [tb_horn h8, tb_lane hw hi, hd]
    have h1 : i * (w / 8) + j / 8 < 128 / 8 := by rcases hw with rfl | rfl | rfl | rfl <;> omega
    rw [at_list v 8 _ h1, tb_lane (.inl rfl) h1]
    have h2 : (i * (w / 8) + j / 8) * 8 + j % 8 = i * w + j := by rcases hw with rfl | rfl | rfl | rfl <;> omega
    rw [h2]
    simp [hj, show j % 8 < 8 by omega]

def pre (f : Nat → Nat) (i : Nat) : List Nat := (List.range i).map f
theorem pre_succ (f : Nat → Nat) (i : Nat) : pre f (i + 1) = pre f i ++ [f i] := by simp [pre, List.range_succ]
theorem pre_length (f : Nat → Nat) (i : Nat) : (pre f i).length = i := by simp [pre]

/-- A row of words of the call's own. -/
def OwnW (w : World) (base : Nat) (v : Value) (l : List Nat) : Prop := w.ownsRow base 22 1 v l.length (l.map fun n : Nat => Value.int .u64 (n : Int))

def ListPost (W : World) (c : Nat) (L : List Nat) (e : Ending) (W' : World) : Prop :=
  ∃ g cap cur, W.heap.size ≤ g ∧ e = .returned (.slice (some ⟨g, 0, none⟩) c cap) ∧ c ≤ cap ∧ W'.heap[g]? = some (.cells cur 22 (0, 0)) ∧ (∀ i, i < c → cur[i]? = some (.int .u64 (at0 L i : Int))) ∧ Below W.heap.size W W'

theorem own_post {w : World} {base : Nat} {v : Value} {l : List Nat} (h : OwnW w base v l) (h1 : 1 ≤ l.length) :
    ∃ g cap cur, base ≤ g ∧ v = .slice (some ⟨g, 0, none⟩) l.length cap ∧ l.length ≤ cap ∧ w.heap[g]? = some (.cells cur 22 (0, 0)) ∧ ∀ i, i < l.length → cur[i]? = some (.int .u64 (at0 l i : Int)) := by
  unfold OwnW at h
  obtain ⟨_, ⟨rfl, h0⟩ | ⟨g, cap, cur, rfl, hbase, hblk, hn, hm, hsz, htake⟩⟩ := h
  · omega
  · refine ⟨g, cap, cur, hbase, rfl, hn, hblk, fun i hi => ?_⟩
    have e : cur.toList[i]? = (cur.toList.take (l.length * 1))[i]? := by
      rw [List.getElem?_take, if_pos (by omega)]
    rw [← Array.getElem?_toList, e, htake]
    simp [at0, List.getElem?_eq_getElem hi]

theorem aux0 (j : Nat) : ((j + 1 : Nat) : Int) - 1 = (j : Int) := by omega
theorem aux1 {r d j : Nat} (h : r + d ≤ 16) (hj : j + 1 ≤ d) : r + j < 16 := by omega
theorem aux2 {d j : Nat} (h : d ≤ 8) : d - (j + 1) ≤ 7 := by omega
theorem aux3 {d j : Nat} (hj : j + 1 ≤ d) : d - (j + 1) + 1 = d - j := by omega
theorem aux4 {r d j : Nat} (h : r + d ≤ 16) (hj : j + 1 ≤ d) : (r : Int) + (j : Int) < 16 := by omega
theorem aux5 {d j : Nat} (hj : j + 1 ≤ d) : j ≤ d := by omega
theorem horn_step {b : Nat → Nat} (hb : ∀ i, b i < 2 ^ 8) (i d : Nat) (hd : d ≤ 7) :
    ∃ n m p z : Nat, hornD b (i + 1) d = n ∧ b i = z ∧ hornD b i (d + 1) = p ∧ IntKind.u64.wrap (256 * (n : Int)) = (m : Int) ∧ IntKind.u64.wrap ((m : Int) + (z : Int)) = (p : Int) ∧ IntKind.u64.wrap (z : Int) = (z : Int) := by
  have b1 := horn_lt hb d (i + 1)
  have b3 : 2 ^ (8 * d) ≤ 2 ^ 56 := Nat.pow_le_pow_right (by decide) (by omega)
  have l1 := hb i
  refine ⟨_, 256 * hornD b (i + 1) d, _, _, rfl, rfl, rfl, ?_, ?_, ?_⟩
  · rw [IntKind.wrap_u64]; generalize hornD b (i + 1) d = n at *; omega
  · rw [IntKind.wrap_u64, hornD]; generalize hornD b (i + 1) d = n at *; omega
  · rw [IntKind.wrap_u64]; omega

set_option maxHeartbeats 2000000 in
theorem rlist_calls {w c : Nat} (hw : IsW w) (hc : 128 / w = c) (v : Nat × Nat) (W : World) :
    Calls Tryd.prog 21 #[vecV v, .int .i64 (w : Int)] W fun e W' => ListPost W c (listN v w) e W' := by
  obtain ⟨i0, hi, hz0, hz1, hz2⟩ := info_parts infoW
  have HB := hide (below_two W (.cells #[.int .u64 (v.1 : Int), .int .u64 (v.2 : Int)] 24))
  have CB := hide (fun W' => rbytes_calls v W')
  have HLB : Hide ((listN v 8).length = 16) := hide (listN_length v 8)
  have LB := hide (list_lanes v 8)
  obtain ⟨d, hd⟩ : ∃ d, w / 8 = d := ⟨_, rfl⟩
  have LH : Hide (∀ i, i < c → hornD (at0 (listN v 8)) (i * d) d = laneN v w i) := hide (fun i hi => by rw [← hd]; exact lane_horn hw (by omega))
  have HL : Hide (listN v w = pre (laneN v w) c) := hide (by rw [← hc]; rfl)
  have HLT := hide (fun i => Nat.lt_of_lt_of_le (laneN_lt v w i) (Nat.pow_le_pow_right (by decide) hw.le : 2 ^ w ≤ 2 ^ 64))
  have hq := q128 hw
  rw [hc] at hq
  have hq8 : (w : Int).tdiv 8 = (d : Int) := by rw [← hd]; rcases hw with rfl | rfl | rfl | rfl <;> rfl
  have hw1 : (w : Int) ≠ 0 := by have := hw.pos; omega
  have hw0 : ((w : Int) == 0) = false := by have := hw.pos; simp; omega
  have hc16 : c ≤ 16 := by rw [← hc]; rcases hw with rfl | rfl | rfl | rfl <;> decide
  have hc2 : 2 ≤ c := by rw [← hc]; rcases hw with rfl | rfl | rfl | rfl <;> decide
  have hd8 : d ≤ 8 := by rw [← hd]; rcases hw with rfl | rfl | rfl | rfl <;> decide
  have hwc : wrap64 (c : Int) = (c : Int) := by unfold wrap64; omega
  have hwd : wrap64 (d : Int) = (d : Int) := by unfold wrap64; omega
  have IDX : Hide (∀ i, i < c → i * w ≤ 128 ∧ i * d + d ≤ 16 ∧ i * w / 8 = i * d) := hide (fun i hi => by
    subst hd; subst hc; rcases hw with rfl | rfl | rfl | rfl <;> omega)
  generalize listN v 8 = B at *
  generalize listN v w = LW at *
  generalize laneN v w = f at *
  clear hw hc hd
  obtain ⟨lo, hi2⟩ := v
  unfold vecV at CB ⊢
  simp only at CB HB ⊢
  have IN := hide (info16' HLB.out)
  go_enter Tryd.func21, Tryd.ntmps21
  go_wp2_with fail
  refine (CB.out _).mono ?_
  rintro e w1 ⟨rfl, hb⟩
  have B1 := hide (HB.out.trans (hb.mono HB.out.size))
  clear hb HB CB
  have AL : Hide (Blk (w1.alloc (.cells (cellsB zero16) 34)) w1.heap.size zero16) := hide (alloc_at rfl)
  unfold arrV
  go_wp2_with (refine wpList_store_row rfl 34 _ _ rfl w1.heap.size (cellsB B) rfl rfl 34 (cellsB zero16) AL.out IN.out (by rw [cellsB_size, cellsB_size, HLB.out]; rfl) (cellsB_one B) ?_)
  obtain ⟨W2, hW2⟩ : ∃ W2, W2 = (w1.alloc (.cells (cellsB zero16) 34)).setRow w1.heap.size (cellsB B) := ⟨_, rfl⟩
  have S2 : Hide (W2.heap.size = w1.heap.size + 1) := hide (by rw [hW2]; simp)
  have BK : Hide (Blk W2 w1.heap.size B) := hide (by rw [hW2]; exact setRow_heap _ _ _ _ _ _ AL.out)
  have B2 : Hide (Below W.heap.size W W2) := hide (by rw [hW2]; exact below_setRow (B1.out.alloc B1.out.size _) B1.out.size _)
  go_loopw [6, 7] (fun v x wr => ∃ k : Nat, x = .int .i64 (k : Int) ∧ k ≤ c ∧ OwnW wr (w1.heap.size + 1) v (pre f k) ∧ Below (w1.heap.size + 1) W2 wr) (fun _ x _ => c - (intOf x).toNat)
  case atStart =>
    refine ⟨0, rfl, by omega, World.ownsRow_nil _ _ _ _, ?_⟩
    rw [hW2]
    exact Below.refl _ _
  case round =>
    obtain ⟨k, rfl, hk, hown, hbel⟩ := hrel
    clear hW2
    by_cases c0 : k < c
    · have c1 : (k : Int) < (c : Int) := by omega
      have c2 : (k : Int) < 16 := by omega
      obtain ⟨x1, x2, x3⟩ := IDX.out k c0
      have M : wrap64 ((k : Int) * (w : Int)) = ((k * w : Nat) : Int) := by
        have e : (k : Int) * (w : Int) = ((k * w : Nat) : Int) := by simp
        rw [e]; unfold wrap64; omega
      have T : Int.tdiv ((k * w : Nat) : Int) 8 = ((k * d : Nat) : Int) := by
        rw [← x3]; exact (Int.ofNat_tdiv (k * w) 8).symm
      have LK := hide (LH.out k c0)
      generalize k * w = q at *
      obtain ⟨r, hr⟩ : ∃ r, k * d = r := ⟨_, rfl⟩
      rw [hr] at T x2 LK
      have hwr : wrap64 (r : Int) = (r : Int) := by unfold wrap64; omega
      have BKr := hide (BK.out.later hbel (Nat.lt_succ_self _))
      have HBEL := hide hbel
      have HOWN := hide hown
      have X2 := hide x2
      clear x1 x2 x3 LH IDX hown hbel hr
      go_wp2_with fail
      go_loop [8, 9] (fun n x => ∃ j : Nat, j ≤ d ∧ x = .int .i64 ((j : Int) - 1) ∧ n = .int .u64 (hornD (at0 B) (r + j) (d - j) : Int)) (fun _ x => (intOf x + 1).toNat)
      case atStart => exact ⟨d, Nat.le_refl _, rfl, by rw [Nat.sub_self]; rfl⟩
      case round =>
        obtain ⟨j, hj, rfl, rfl⟩ := hrel
        cases j with
        | zero =>
          have LK2 := LK.out
          rw [Nat.add_zero, Nat.sub_zero, LK2]
          obtain ⟨va, vc, hva⟩ := own_shape HOWN.out
          rw [pre_length] at hva
          have hown := HOWN.out
          rw [hva] at hown ⊢
          unfold OwnW at hown
          rw [pre_length] at hown
          have C3 : Hid (k + 1 ≤ maxLen) := by show k + 1 ≤ maxLen; unfold maxLen; omega
          have C4 : Hid ((k + 1) * 8 ≤ 140737488355328) := by show (k + 1) * 8 ≤ 140737488355328; omega
          have C5 : Hid (∀ o : Obj, w1.heap.size + 1 ≤ (wr.alloc o).heap.size) := by intro o; have := HBEL.out.size; have := S2.out; simp; omega
          have PS := hide (pre_succ f k)
          clear LK LK2 hva BKr
          generalize f k = n at *
          go_wp2_with (at_builtin; refine wpList_append_own _ rfl _ _ 44 rfl (w1.heap.size + 1) 22 i0 (.int .u64 0) 1 8 Tryd.underlying44 hi hz0 hz1 hz2 rfl (by decide) _ _ _ rfl (hown.alloc _) ⟨wr.heap.size, 0, none⟩ 1 1 [.int .u64 (n : Int)] rfl rfl (cell_one_new _ _ _) (one_cell64 _) C3.out C4.out (C5.out _) ?_)
          intro v' w3 hown' hgrow _
          have hown2 : OwnW w3 (w1.heap.size + 1) v' (pre f (k + 1)) := by
            unfold OwnW
            rw [PS.out]; simpa [pre_length] using hown'
          have hbel2 : Below (w1.heap.size + 1) W2 w3 := (HBEL.out.alloc (by have := HBEL.out.size; have := S2.out; omega) _).grown hgrow (by have := HBEL.out.size; have := S2.out; simp; omega) (fun k hk => (hown.lt k hk).1)
          have H2 := hide hown2
          have H3 := hide hbel2
          clear hown2 hbel2 hown' hgrow hown
          go_wp2
          go_roundw
          case rel => exact ⟨k + 1, by go_num, by omega, H2.out, H3.out⟩
          case measure => simp [intOf]; omega
        | succ j =>
          have hx := X2.out
          rw [aux0 j]
          have hcell := BKr.out.cell (r + j) (by rw [HLB.out]; exact aux1 hx hj)
          obtain ⟨n, m, p, z, hn, hz, hp, E1, E3, E5⟩ := horn_step (b := at0 B) LB.out (r + j) (d - (j + 1)) (aux2 hd8)
          rw [Nat.add_assoc] at hn
          rw [aux3 hj] at hp
          rw [hz] at hcell
          rw [hn]
          have P1 : Hide (p = hornD (at0 B) (r + j) (d - j)) := hide hp.symm
          have hrj : (r : Int) + (j : Int) < 16 := aux4 hx hj
          have hj' := aux5 hj
          clear hn hz hp LK hx hq hq8 hwc hwd hi hz0 hz1 hz2
          go_wp2
          go_round
          case rel => exact ⟨j, hj', rfl, by rw [P1.out]⟩
          case measure => simp [intOf]
    · obtain rfl : k = c := by omega
      have HOWN := hide hown
      have HBEL := hide hbel
      clear hown hbel LH IDX
      go_wp2
      go_ret
      obtain ⟨g, cap, cur, hg, hv, hcap, hblk, hcell⟩ := own_post HOWN.out (by rw [pre_length]; omega)
      rw [pre_length] at hv hcap hcell
      refine ⟨g, cap, cur, Nat.le_trans B1.out.size (by omega), ?_, hcap, hblk, ?_, B2.out.trans (HBEL.out.mono (by have := B1.out.size; omega))⟩
      · exact congrArg Ending.returned hv
      · rw [HL.out]; exact hcell
end Go.Proofs.YtdhanapmknlobabDoor
