/-
  The walk of LanesBack.
-/
import Derived.Test.YtdhanapmknlobaaDoorLanBase
import Derived.Test.YtdhanapmknlobaaDoorLanLaw3
set_option linter.unusedVariables false
set_option linter.unusedSimpArgs false
namespace Go.Proofs.YtdhanapmknlobaaDoor
open Go.RowKit Lan

theorem wrap64_nat6 {q : Nat} (h : q ≤ 1000) : wrap64 (q : Int) = (q : Int) := by unfold wrap64; omega
theorem wrapi_nat6 {q : Nat} (h : q ≤ 1000) : IntKind.i64.wrap (q : Int) = (q : Int) := by rw [IntKind.wrap_i64]; omega

set_option maxHeartbeats 4000000 in
theorem back_walk (n w c v0 v1 : Nat) (L : List Nat) (MV : Array Value)
    (CW : Hide (∀ W : World, Calls Tryd.prog 33 #[.int .u8 (n : Int)] W fun e W' => e = .returned (.int .i64 (w : Int)) ∧ W' = W))
    (CA : Hide (∀ W : World, WTabs W → Calls Tryd.prog 14 #[vecV (v0, v1), .int .i64 (w : Int)] W fun e W' => AllPost W c L e W'))
    (CO : Hide (∀ (W : World) (g : Nat), WTabs W → WBlk W g L → Calls Tryd.prog 16 #[.int .i64 (w : Int), .slice (some ⟨g, 0, none⟩) c c] W fun e W' => e = .returned (vecE ((v0, v1), 0)) ∧ Below W.heap.size W W'))
    (CE : ∀ (W : World) (g1 g2 : Nat), WBlk W g1 L → WBlk W g2 L → Calls Tryd.prog 20 #[.slice (some ⟨g1, 0, none⟩) c c, .slice (some ⟨g2, 0, none⟩) c c] W fun e W' => e = .returned (.bool true) ∧ Below W.heap.size W W')
    (CB : ∀ W : World, Calls Tryd.prog 21 #[vecV (v0, v1)] W fun e W' => e = .returned (.agg MV) ∧ Below W.heap.size W W')
    (CF : ∀ W : World, Calls Tryd.prog 23 #[.agg MV] W fun e W' => e = .returned (vecV (v0, v1)) ∧ Below W.heap.size W W')
    (hq : (128 : Int).tdiv (w : Int) = (c : Int)) (hw1 : (w : Int) ≠ 0) (hw0 : ((w : Int) == 0) = false) (hwc : wrap64 (c : Int) = (c : Int)) (hwn : w ≠ 0) (hwi : IntKind.i64.wrap (c : Int) = (c : Int))
    (W : World) (HT : Hide (WTabs W)) :
    Calls Tryd.prog 8 #[vecV (v0, v1), .int .u8 (n : Int)] W fun e W' => e = .returned (.bool true) ∧ Below W.heap.size W W' := by
  have HB : Hide (Below W.heap.size W (W.alloc (.cells #[.int .u64 (v0 : Int), .int .u64 (v1 : Int)] 24))) := hide (below_two _ _)
  have VB : Hide (VBlk (W.alloc (.cells #[.int .u64 (v0 : Int), .int .u64 (v1 : Int)] 24)) W.heap.size (v0, v1)) := hide (alloc_at rfl)
  have CE := hide CE
  have CB := hide CB
  have CF := hide CF
  have HQ := hide hq
  clear hq
  unfold vecE at CO
  unfold vecV at CA CO CB CF ⊢
  simp only at CA CO CB CF ⊢
  go_enter Tryd.func8, Tryd.ntmps8
  go_wp2_with ((with_reducible refine (CW.out _).mono ?_); rintro e w1 ⟨rfl, rfl⟩)
  refine (CA.out _ (HT.out.later HB.out)).mono ?_
  rintro e w2 ⟨g1, hg1, rfl, hk1, hb⟩
  have B2 := hide (HB.out.trans (hb.mono HB.out.size))
  have V2 := hide (VB.out.later hb VB.out.lt)
  have K1 := hide hk1
  clear hb hg1 hk1
  go_wp2_with fail
  refine (CO.out _ g1 (HT.out.later B2.out) K1.out).mono ?_
  rintro e w3 ⟨rfl, hb⟩
  have B3 := hide (B2.out.trans (hb.mono B2.out.size))
  have V3 := hide (V2.out.later hb V2.out.lt)
  have K3 := hide (K1.out.later hb K1.out.lt)
  clear hb
  go_wp2_with fail
  refine (CA.out _ (HT.out.later (B3.out.alloc B3.out.size _))).mono ?_
  rintro e w4 ⟨g2, hg2, rfl, hk2, hb⟩
  have B4 := hide ((B3.out.alloc B3.out.size _).trans (hb.mono (by simp; have := B3.out.size; omega)))
  have V4 : Hide (VBlk w4 W.heap.size (v0, v1)) := hide (VBlk.later (alloc_past V3.out) hb (by simp; have := V3.out.lt; omega))
  have U4 : Hide (VBlk w4 w3.heap.size (v0, v1)) := hide (VBlk.later (alloc_at rfl) hb (by simp))
  have K4 : Hide (WBlk w4 g1 L) := hide (WBlk.later (alloc_past K3.out) hb (by simp; have := K3.out.lt; omega))
  have M4 := hide hk2
  have HS : Hide (W.heap.size ≤ w4.heap.size) := hide (Nat.le_of_lt V4.out.lt)
  have D1 : Hide (∀ W' : World, Below w4.heap.size w4 W' → Calls Tryd.prog 20 #[.slice (some ⟨g1, 0, none⟩) c c, .slice (some ⟨g2, 0, none⟩) c c] W' fun e W'' => e = .returned (.bool true) ∧ Below w4.heap.size w4 W'') :=
    hide fun W' hB => (CE.out W' g1 g2 (K4.out.later hB K4.out.lt) (M4.out.later hB M4.out.lt)).mono fun e W'' ⟨he, h2⟩ => ⟨he, hB.trans (h2.mono hB.size)⟩
  have D2 := hide (from_base (wa := w4) CB.out)
  have D3 := hide (from_base (wa := w4) CF.out)
  have D4 := hide (from_tabs (HT.out.later B4.out) works_calls)
  obtain ⟨I, F, hne, hF, hin⟩ := family w4
  have E1 := hide (in_family hF hin D1.out)
  have E2 := hide (in_family hF hin D2.out)
  have E3 := hide (in_family hF hin D3.out)
  have E4 := hide (in_family hF hin D4.out)
  have hc0 : ∀ i, (F i).cell? ⟨W.heap.size, 0, none⟩ = some (.int .u64 (v0 : Int)) := fun i => (V4.out.later (hF i) V4.out.lt).c0
  have hc1 : ∀ i, (F i).cell? ⟨W.heap.size, 1, none⟩ = some (.int .u64 (v1 : Int)) := fun i => (V4.out.later (hF i) V4.out.lt).c1
  have hu0 : ∀ i, (F i).cell? ⟨w3.heap.size, 0, none⟩ = some (.int .u64 (v0 : Int)) := fun i => (U4.out.later (hF i) U4.out.lt).c0
  have hu1 : ∀ i, (F i).cell? ⟨w3.heap.size, 1, none⟩ = some (.int .u64 (v1 : Int)) := fun i => (U4.out.later (hF i) U4.out.lt).c1
  have HF := hide hF
  have IN := hide hin
  clear hb hg2 hk2 CA CO CE CB CF hF hin D1 D2 D3 D4
  have hq := HQ.out
  go_wp2_with fail
  refine wp_region_class F (by kernel_rfl) (by kernel_rfl) (IN.out _ (Below.refl _ _).drew) ?_
  repeat (refine wpQuiet_step (fun K hK => ?_); go_simp; first | (refine hK _ ?_; clear hK K) | (apply Exists.intro; refine ⟨fun _ => ?_, hK _ ?_⟩; (first | exact E1.out _ | exact E2.out _ | exact E3.out _ | exact E4.out _); clear hK K))
  refine wpQuiet_nil ?_
  rintro _ ⟨i, rfl⟩
  go_wp2_with fail
  go_ret
  exact ⟨rfl, B4.out.trans ((HF.out i).mono HS.out)⟩

theorem lanesBack_calls (v : Nat × Nat) (hv : Vok v) (n : Nat) (_ : n < 2 ^ 8) (W : World) (hT : WTabs W) :
    Calls Tryd.prog 8 #[vecV v, .int .u8 (n : Int)] W fun e W' => e = .returned (.bool true) ∧ Below W.heap.size W W' := by
  have hw := lwd_ok n
  have CW := fun W => wid_calls n W
  generalize lwd n = w at *
  obtain ⟨c, hc⟩ : ∃ c, 128 / w = c := ⟨_, rfl⟩
  have hq := q128 hw
  rw [hc] at hq
  have hc16 : c ≤ 16 := by rw [← hc]; rcases hw with rfl | rfl | rfl | rfl <;> decide
  have h64 : ∀ i, at0 (listN v w) i < 2 ^ 64 := fun i => Nat.lt_of_lt_of_le (list_lanes v w i) (Nat.pow_le_pow_right (by decide) (by rcases hw with rfl | rfl | rfl | rfl <;> decide))
  have hlen : (listN v w).length = c := by rw [listN_length, hc]
  have row : ∀ (W : World) (g : Nat), WBlk W g (listN v w) → RowW W (some ⟨g, 0, none⟩) c (listN v w) := fun W g h => by
    have := h.row (by rw [hlen]; omega) h64
    rwa [hlen] at this
  have eo : ofV (w : Int) (listN v w) = (v, 0) := by
    have h1 : okAll (w : Int) (listN v w) = true := okAll_true fun k _ => ok1_of hw ⟨by omega, by have := list_lanes v w k; exact_mod_cast this⟩
    unfold ofV
    rw [(isW_iff w).2 ⟨w, rfl, hw⟩, h1, listN_length]
    simp [vec_list hw hv]
  have e8 : vecN 8 (listN v 8) = v := vec_list (.inl rfl) hv
  have CF := fun W => lofBytes_calls (listN v 8) (by rw [listN_length]) (list_lanes v 8) W
  rw [e8] at CF
  refine back_walk n w c v.1 v.2 (listN v w) (cellsB (listN v 8)) (hide CW) (hide fun W hT => lall_ok hw hc v hv W hT) (hide fun W g hT h => ?_) (fun W g1 g2 h1 h2 => ?_) (fun W => lbytes_calls v hv W) CF hq (by have := hw.pos; omega) (by have := hw.pos; simp; omega) (wrap64_nat6 (by omega)) (by have := hw.pos; omega) (wrapi_nat6 (by omega)) W (hide hT)
  · have := lof_calls (w : Int) (some ⟨g, 0, none⟩) c c (listN v w) W hT (row W g h)
    rwa [eo] at this
  · exact (words_calls _ _ c c c (listN v w) W (row W g1 h1) (row W g2 h2)).mono fun e W' ⟨he, q, hq⟩ => ⟨he, by rw [hq]; exact below_drewNq (Below.refl _ _) q⟩
end Go.Proofs.YtdhanapmknlobaaDoor
