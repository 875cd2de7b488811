/-
  lanes.Splat.
-/
import Derived.Test.YtdhanapmknlobaaDoorLanGet
set_option linter.unusedVariables false
set_option linter.unusedSimpArgs false
namespace Go.Proofs.YtdhanapmknlobaaDoor
open Go.RowKit Lan

theorem vecTo_ok2 {w : Nat} {l : List Nat} (hw : IsW w) : ∀ m, m ≤ 128 / w → (∀ j, j < m → at0 l j < 2 ^ w) → Vok (vecTo w l m)
  | 0, _, _ => ⟨Nat.two_pow_pos 64, Nat.two_pow_pos 64⟩
  | m + 1, h, hl => with_ok hw (by omega) (hl m (by omega)) (vecTo_ok2 hw m (by omega) (fun j hj => hl j (by omega)))

def splatV (w : Int) (n : Nat) : (Nat × Nat) × Int := if ok1 w n then (vecN w.toNat (List.replicate (128 / w.toNat) n), 0) else ((0, 0), 2)

theorem at_rep (c n k : Nat) (hk : k < c) : at0 (List.replicate c n) k = n := by simp [at0, List.getElem?_replicate, hk]

theorem ok1_lt {w n : Nat} (h : ok1 (w : Int) (n : Int) = true) : n < 2 ^ w := by
  obtain ⟨n', e', _, h2⟩ := of_ok1 (by omega) h
  obtain rfl : w = n' := by omega
  have := h2.2
  exact_mod_cast this

def VAt (g0 g1 : Nat) (W : World) (v : Nat × Nat) (wr : World) : Prop :=
  VBlk wr g0 (0, 0) ∧ VBlk wr g1 v ∧ Below W.heap.size W wr

set_option maxHeartbeats 1000000 in
theorem lsplat_bad (w : Int) (n : Nat) (h : ok1 w n = false) (W : World) (hT : WTabs W) :
    Calls Tryd.prog 18 #[.int .i64 w, .int .u64 (n : Int)] W fun e W' => e = .returned (vecE ((0, 0), 2)) ∧ Below W.heap.size W W' := by
  have BB : Below W.heap.size W (W.alloc (.cells #[.int .u64 0, .int .u64 0] 24)) := below_two _ _
  have F := lfit_calls w n _ (hT.later BB)
  have RB : Hide (VBlk (W.alloc (.cells #[.int .u64 0, .int .u64 0] 24)) W.heap.size (0, 0)) := hide (alloc_at rfl)
  have HB := hide BB
  rw [h] at F
  have F := hide F
  clear BB hT h
  unfold vecE vecV
  go_enter Tryd.func18, Tryd.ntmps18
  go_wp2_with fail
  refine F.out.mono ?_
  rintro e w1 ⟨rfl, hb⟩
  have BN := hide (HB.out.trans (hb.mono HB.out.size))
  have R1 := hide (RB.out.later hb RB.out.lt)
  have g0 := R1.out.c0
  have g1 := R1.out.c1
  have z0 := R1.out.frozen 0
  have z1 := R1.out.frozen 1
  clear hb HB
  go_wp2
  refine bodyPost_ret (v := vecE ((0, 0), 2)) ((R1.out.set2 0 0).result2 (by rfl) _ rfl rfl) rfl ?_
  exact ⟨rfl, (BN.out.setCell (by simp) _).setCell (by simp) _⟩

set_option maxHeartbeats 1000000 in
theorem lsplat_ok {w c : Nat} (hw : IsW w) (hc : 128 / w = c) (hq : (128 : Int).tdiv (w : Int) = (c : Int)) (n : Nat) (h : ok1 (w : Int) (n : Int) = true) (W : World) (hT : WTabs W) :
    Calls Tryd.prog 18 #[.int .i64 (w : Int), .int .u64 (n : Int)] W fun e W' => e = .returned (vecE (vecN w (List.replicate c n), 0)) ∧ Below W.heap.size W W' := by
  have BB : Below W.heap.size W (W.alloc (.cells #[.int .u64 0, .int .u64 0] 24)) := below_two _ _
  have F := lfit_calls w n _ (hT.later BB)
  have RB : Hide (VBlk (W.alloc (.cells #[.int .u64 0, .int .u64 0] 24)) W.heap.size (0, 0)) := hide (alloc_at rfl)
  have HB := hide BB
  rw [h] at F
  have F := hide F
  have hlt := ok1_lt h
  obtain ⟨l, hl⟩ : ∃ l, List.replicate c n = l := ⟨_, rfl⟩
  have hat : ∀ k, k < c → at0 l k = n := fun k hk => by rw [← hl]; exact at_rep c n k hk
  have CW : Hide (∀ (k : Nat), k < c → ∀ W', Calls Tryd.prog 39 #[vecV (vecTo w l k), .int .i64 (w : Int), .int .i64 (k : Int), .int .u64 (n : Int)] W' fun e W'' => e = .returned (vecV (vecTo w l (k + 1))) ∧ Below W'.heap.size W' W'') := hide (fun k hk W' => by
    have := with_calls hw (i := k) (n := n) (by omega) hlt (vecTo w l k) (vecTo_ok2 hw k (by omega) (fun j hj => by rw [hat j (by omega)]; exact hlt)) W'
    have e : withN (vecTo w l k) w k n = vecTo w l (k + 1) := by rw [vecTo, hat k hk]
    rwa [e] at this)
  have hw0 : ((w : Int) == 0) = false := by have := hw.pos; simp; omega
  have hw1 : (w : Int) ≠ 0 := by have := hw.pos; omega
  have hc16 : c ≤ 16 := by rw [← hc]; rcases hw with rfl | rfl | rfl | rfl <;> decide
  have hwc : wrap64 (c : Int) = (c : Int) := by unfold wrap64; omega
  obtain ⟨⟨fp, fq⟩, hF⟩ : ∃ F, vecN w l = F := ⟨_, rfl⟩
  rw [hl, hF]
  have HF : Hide (vecTo w l c = (fp, fq)) := hide (by rw [← hF, ← hc]; rfl)
  clear BB hT h hlt hat hl hF hc hw
  unfold vecE vecV
  unfold vecV at CW
  go_enter Tryd.func18, Tryd.ntmps18
  go_wp2_with fail
  refine F.out.mono ?_
  rintro e w1 ⟨rfl, hb⟩
  have BN := hide (HB.out.trans (hb.mono HB.out.size))
  have R1 := hide (RB.out.later hb RB.out.lt)
  clear hb HB RB F
  go_wp2_with fail
  go_loopw [15] (fun x wr => ∃ k : Nat, x = .int .i64 (k : Int) ∧ k ≤ c ∧ VAt W.heap.size w1.heap.size W (vecTo w l k) wr) (fun x _ => c - (intOf x).toNat)
  case atStart =>
    exact ⟨0, rfl, by omega, alloc_past R1.out, alloc_at rfl, BN.out.alloc BN.out.size _⟩
  case round =>
    obtain ⟨k, rfl, hk, hr⟩ := hrel
    have hg : W.heap.size < w1.heap.size := R1.out.lt
    have HG := hide hg
    have HQ := hide hq
    clear hg hq
    by_cases c0 : k < c
    · have c1 : (k : Int) < (c : Int) := by omega
      have c2 : (k : Int) < 16 := by omega
      have CK := hide (CW.out k c0)
      have H := hide hr
      have h0 := hr.2.1.c0
      have h1 := hr.2.1.c1
      obtain ⟨⟨p, q⟩, hv'⟩ : ∃ v', vecTo w l (k + 1) = v' := ⟨_, rfl⟩
      have HV := hide hv'
      rw [hv'] at CK
      clear hr CW hv'
      generalize (vecTo w l k).1 = lo at *
      generalize (vecTo w l k).2 = hi at *
      simp only at CK
      go_wp2_with fail
      refine (CK.out _).mono ?_
      rintro e w2 ⟨rfl, hb⟩
      have K1 : Hide (VAt W.heap.size w1.heap.size W (vecTo w l k) w2) := by
        obtain ⟨a1, a2, a3⟩ := H.out
        exact hide ⟨a1.later hb a1.lt, a2.later hb a2.lt, a3.trans (hb.mono a3.size)⟩
      have hc0 := K1.out.2.1.c0
      have hc1 := K1.out.2.1.c1
      have hz0 := K1.out.2.1.frozen 0
      have hz1 := K1.out.2.1.frozen 1
      clear h0 h1 H hb
      go_wp2
      go_roundw
      case rel =>
        obtain ⟨a1, a2, a3⟩ := K1.out
        have hg := HG.out
        refine ⟨k + 1, by go_num, by omega, ?_, ?_, (a3.setCell (by simp; omega) _).setCell (by simp; omega) _⟩
        · exact (a1.other (by omega) _ _).other (by omega) _ _
        · rw [HV.out]; exact a2.set2 p q
      case measure => simp [intOf]; omega
    · obtain rfl : k = c := by omega
      have H := hide hr
      have hr2 := hr.2.1
      rw [HF.out] at hr2
      have h0 := hr2.c0
      have h1 := hr2.c1
      have g0 := hr.1.c0
      have g1 := hr.1.c1
      have z0 := hr.1.frozen 0
      have z1 := hr.1.frozen 1
      clear hr hr2 CW
      simp only at h0 h1
      go_wp2
      refine bodyPost_ret (v := vecE ((fp, fq), 0)) ((H.out.1.set2 fp fq).result2 (by rfl) _ rfl rfl) rfl ?_
      exact ⟨rfl, (H.out.2.2.setCell (by simp) _).setCell (by simp) _⟩

theorem q128 {w : Nat} (hw : IsW w) : (128 : Int).tdiv (w : Int) = ((128 / w : Nat) : Int) := by
  rcases hw with rfl | rfl | rfl | rfl <;> rfl

theorem lsplat_calls (w : Int) (n : Nat) (W : World) (hT : WTabs W) :
    Calls Tryd.prog 18 #[.int .i64 w, .int .u64 (n : Int)] W fun e W' => e = .returned (vecE (splatV w n)) ∧ Below W.heap.size W W' := by
  unfold splatV
  cases h : ok1 w n with
  | false => simpa using lsplat_bad w n h W hT
  | true =>
    obtain ⟨m, rfl, hm, _⟩ := of_ok1 (by omega) h
    simpa using lsplat_ok hm rfl (q128 hm) n h W hT
end Go.Proofs.YtdhanapmknlobaaDoor
