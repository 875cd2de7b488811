/-
  The document's Splat.
-/
import Derived.Test.YtdhanapmknlobaaDoorLanRef5
set_option linter.unusedVariables false
set_option linter.unusedSimpArgs false
namespace Go.Proofs.YtdhanapmknlobaaDoor
open Go.RowKit Lan

set_option maxHeartbeats 1000000 in
theorem rsplat_bad (w : Int) (n : Nat) (h : ok1 w n = false) (W : World) :
    Calls Tryd.prog 19 #[.int .i64 w, .int .u64 (n : Int)] W fun e W' => e = .returned (vecE ((0, 0), 2)) ∧ Below W.heap.size W W' := by
  have HB := hide (below_two W (.cells #[.int .u64 0, .int .u64 0] 24))
  have CW := width_calls w
  cases hw : isW w with
  | false =>
    rw [hw] at CW
    have CW := hide CW
    clear h hw
    go_enter Tryd.func19, Tryd.ntmps19
    go_wp2_with ((with_reducible refine (CW.out _).mono ?_); rintro e w1 ⟨rfl, rfl⟩)
    refine bodyPost_ret (v := vecE ((0, 0), 2)) (VBlk.result2 (v := (0, 0)) (alloc_at (g := W.heap.size) rfl) (by rfl) _ rfl rfl) rfl ?_
    exact ⟨rfl, HB.out⟩
  | true =>
    obtain ⟨m, rfl, hm⟩ := (isW_iff w).1 hw
    rw [hw] at CW
    have CW := hide CW
    have FT := fun W' => rfits_calls hm (n : Int) W'
    rw [fit_ok1 hm, h] at FT
    have FT := hide FT
    clear h hw hm
    go_enter Tryd.func19, Tryd.ntmps19
    go_wp2_with (first | ((with_reducible refine (CW.out _).mono ?_); rintro e w1 ⟨rfl, rfl⟩) | ((with_reducible refine (FT.out _).mono ?_); rintro e w1 ⟨rfl, rfl⟩))
    refine bodyPost_ret (v := vecE ((0, 0), 2)) (VBlk.result2 (v := (0, 0)) (alloc_at (g := W.heap.size) rfl) (by rfl) _ rfl rfl) rfl ?_
    exact ⟨rfl, HB.out⟩

theorem pre_const (n c : Nat) : pre (fun _ => n) c = List.replicate c n := by
  unfold pre; rw [List.eq_replicate_iff]; simp

set_option maxHeartbeats 1000000 in
theorem rsplat_ok {w c : Nat} (hw : IsW w) (hc : 128 / w = c) (n : Nat) (h : ok1 (w : Int) (n : Int) = true) (W : World) :
    Calls Tryd.prog 19 #[.int .i64 (w : Int), .int .u64 (n : Int)] W fun e W' => e = .returned (vecE (vecN w (List.replicate c n), 0)) ∧ Below W.heap.size W W' := by
  obtain ⟨i0, hi, hz0, hz1, hz2⟩ := info_parts infoW
  have HB := hide (below_two W (.cells #[.int .u64 0, .int .u64 0] 24))
  have RB : Hide (VBlk (W.alloc (.cells #[.int .u64 0, .int .u64 0] 24)) W.heap.size (0, 0)) := hide (alloc_at rfl)
  have S2 : Hide ((W.alloc (.cells #[.int .u64 0, .int .u64 0] 24)).heap.size = W.heap.size + 1) := hide (by simp)
  have CW := width_calls (w : Int)
  rw [(isW_iff w).2 ⟨w, rfl, hw⟩] at CW
  have CW := hide CW
  have FT := fun W' => rfits_calls hw (n : Int) W'
  rw [fit_ok1 hw, h] at FT
  have FT := hide FT
  have hlt := ok1_lt h
  have CV := hide (fun g cap W' hcl => rvec_calls hw hc g 0 cap (List.replicate c n) (fun k => by
    by_cases e : k < c
    · rw [at_rep c n k e]; exact hlt
    · have e' : (List.replicate c n)[k]? = none := List.getElem?_eq_none (by simp; omega)
      unfold at0; rw [e']; exact Nat.two_pow_pos w) W' hcl)
  have hq := q128 hw
  rw [hc] at hq
  have hw0 : ((w : Int) == 0) = false := by have := hw.pos; simp; omega
  have hw1 : (w : Int) ≠ 0 := by have := hw.pos; omega
  have hc16 : c ≤ 16 := by rw [← hc]; rcases hw with rfl | rfl | rfl | rfl <;> decide
  have hc2 : 2 ≤ c := by rw [← hc]; rcases hw with rfl | rfl | rfl | rfl <;> decide
  have hwc : wrap64 (c : Int) = (c : Int) := wrap64_nat (by omega)
  obtain ⟨⟨fp, fq⟩, hF⟩ : ∃ F, vecN w (List.replicate c n) = F := ⟨_, rfl⟩
  rw [hF] at CV ⊢
  have PC := hide (pre_const n c)
  unfold vecV at CV
  simp only at CV
  clear hF hw hc h hlt
  obtain ⟨W2, hW2⟩ : ∃ W2, W.alloc (.cells #[.int .u64 0, .int .u64 0] 24) = W2 := ⟨_, rfl⟩
  rw [hW2] at HB RB S2
  have HW := hide hW2
  clear hW2
  go_enter Tryd.func19, Tryd.ntmps19
  go_wp2_with (first | ((with_reducible refine (CW.out _).mono ?_); rintro e w1 ⟨rfl, rfl⟩) | ((with_reducible refine (FT.out _).mono ?_); rintro e w1 ⟨rfl, rfl⟩))
  go_loopw [6, 7] (fun v x wr => ∃ k : Nat, x = .int .i64 (k : Int) ∧ k ≤ c ∧ OwnW wr (W.heap.size + 1) v (pre (fun _ => n) k) ∧ Below (W.heap.size + 1) W2 wr) (fun _ x _ => c - (intOf x).toNat)
  case atStart =>
    refine ⟨0, rfl, by omega, World.ownsRow_nil _ _ _ _, ?_⟩
    rw [← HW.out]
    exact Below.refl _ _
  case round =>
    obtain ⟨k, rfl, hk, hown0, hbel⟩ := hrel
    have HBEL := hide hbel
    have HOWN := hide hown0
    clear hown0 hbel
    by_cases c0 : k < c
    · have c1 : (k : Int) < (c : Int) := by omega
      have c2 : (k : Int) < 16 := by omega
      obtain ⟨va, vc, hva⟩ := own_shape HOWN.out
      rw [pre_length] at hva
      have hown := HOWN.out
      rw [hva] at hown ⊢
      unfold OwnW at hown
      rw [pre_length] at hown
      have C3 : Hid (k + 1 ≤ maxLen) := by show k + 1 ≤ maxLen; unfold maxLen; omega
      have C4 : Hid ((k + 1) * 8 ≤ 140737488355328) := by show (k + 1) * 8 ≤ 140737488355328; omega
      have C5 : Hid (∀ o : Obj, W.heap.size + 1 ≤ (wr.alloc o).heap.size) := by intro o; have := HBEL.out.size; have := S2.out; simp; omega
      have PS := hide (pre_succ (fun _ => n) k)
      clear hva CV
      go_wp2_with (at_builtin; refine wpList_append_own _ rfl _ _ 32 rfl (W.heap.size + 1) 22 i0 (.int .u64 0) 1 8 Tryd.underlying32 hi hz0 hz1 hz2 rfl (by decide) _ _ _ rfl (hown.alloc _) ⟨wr.heap.size, 0, none⟩ 1 1 [.int .u64 (n : Int)] rfl rfl (cell_one_new _ _ _) (one_cell64 _) C3.out C4.out (C5.out _) ?_)
      intro v' w3 hown' hgrow _
      have hown2 : OwnW w3 (W.heap.size + 1) v' (pre (fun _ => n) (k + 1)) := by
        unfold OwnW
        rw [PS.out]; simpa [pre_length] using hown'
      have hbel2 : Below (W.heap.size + 1) W2 w3 := (HBEL.out.alloc (by have := HBEL.out.size; have := S2.out; omega) _).grown hgrow (by have := HBEL.out.size; have := S2.out; simp; omega) (fun k hk => (hown.lt k hk).1)
      have H2 := hide hown2
      have H3 := hide hbel2
      clear hown2 hbel2 hown' hgrow hown
      go_wp2
      go_roundw
      case rel => exact ⟨k + 1, by go_num, by omega, H2.out, H3.out⟩
      case measure => simp [intOf]; omega
    · obtain rfl : k = c := by omega
      obtain ⟨g, cap, cur, hg, hv, hcap, hblk, hcell⟩ := own_post HOWN.out (by rw [pre_length]; omega)
      rw [pre_length] at hv hcap hcell
      rw [PC.out] at hcell
      rw [hv]
      have CK := hide (CV.out g cap wr (fun i hi => by rw [Nat.zero_add]; exact row_cell hblk (hcell i hi)))
      have R1 := hide (RB.out.later HBEL.out (Nat.lt_succ_self _))
      have B1 := hide (HB.out.trans (HBEL.out.mono (Nat.le_succ _)))
      clear CV hv hg hcap hblk hcell
      go_wp2_with fail
      refine CK.out.mono ?_
      rintro e w2 ⟨rfl, hb⟩
      have R2 := hide (R1.out.later hb R1.out.lt)
      have BN := hide (B1.out.trans (hb.mono B1.out.size))
      have g0 := R2.out.c0
      have g1 := R2.out.c1
      have z0 := R2.out.frozen 0
      have z1 := R2.out.frozen 1
      clear hb
      go_wp2
      refine bodyPost_ret (v := vecE ((fp, fq), 0)) ((R2.out.set2 fp fq).result2 (by rfl) _ rfl rfl) rfl ?_
      exact ⟨rfl, (BN.out.setCell (by simp) _).setCell (by simp) _⟩

theorem rsplat_calls (w : Int) (n : Nat) (W : World) :
    Calls Tryd.prog 19 #[.int .i64 w, .int .u64 (n : Int)] W fun e W' => e = .returned (vecE (splatV w n)) ∧ Below W.heap.size W W' := by
  unfold splatV
  cases h : ok1 w n with
  | false => simpa using rsplat_bad w n h W
  | true =>
    obtain ⟨m, rfl, hm, _⟩ := of_ok1 (by omega) h
    simpa using rsplat_ok hm rfl n h W
end Go.Proofs.YtdhanapmknlobaaDoor
