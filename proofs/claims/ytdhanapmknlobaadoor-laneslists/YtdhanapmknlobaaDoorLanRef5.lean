/-
  The document's Of, Splat, All.
-/
import Derived.Test.YtdhanapmknlobaaDoorLanRef4
set_option linter.unusedVariables false
set_option linter.unusedSimpArgs false
namespace Go.Proofs.YtdhanapmknlobaaDoor
open Go.RowKit Lan

set_option maxHeartbeats 1000000 in
theorem rall_bad (v : Nat × Nat) (w : Int) (h : isW w = false) (W : World) :
    Calls Tryd.prog 15 #[vecV v, .int .i64 w] W fun e W' => e = .returned (.tuple #[.slice none 0 0, .int .i64 2]) ∧ Below W.heap.size W W' := by
  have HB := hide (below_two W (.cells #[.int .u64 (v.1 : Int), .int .u64 (v.2 : Int)] 24))
  have CW := width_calls w
  rw [h] at CW
  have CW := hide CW
  unfold vecV
  clear h
  go_enter Tryd.func15, Tryd.ntmps15
  go_wp2_with ((with_reducible refine (CW.out _).mono ?_); rintro e w1 ⟨rfl, rfl⟩)
  refine bodyPost_ret (v := .tuple #[.slice none 0 0, .int .i64 2]) (by simp [results, Tryd.results15, go_sem]) rfl ?_
  exact ⟨rfl, HB.out⟩

/-- What the document's All answers: a row of its own. -/
def RAllPost (W : World) (c : Nat) (L : List Nat) (e : Ending) (W' : World) : Prop :=
  ∃ g cap cur, W.heap.size ≤ g ∧ e = .returned (.tuple #[.slice (some ⟨g, 0, none⟩) c cap, .int .i64 0]) ∧ c ≤ cap ∧ W'.heap[g]? = some (.cells cur 22 (0, 0)) ∧ (∀ i, i < c → cur[i]? = some (.int .u64 (at0 L i : Int))) ∧ Below W.heap.size W W'

set_option maxHeartbeats 1000000 in
theorem rall_ok {w c : Nat} (hw : IsW w) (hc : 128 / w = c) (v : Nat × Nat) (W : World) :
    Calls Tryd.prog 15 #[vecV v, .int .i64 (w : Int)] W fun e W' => RAllPost W c (listN v w) e W' := by
  have HB := hide (below_two W (.cells #[.int .u64 (v.1 : Int), .int .u64 (v.2 : Int)] 24))
  have CW := width_calls (w : Int)
  rw [(isW_iff w).2 ⟨w, rfl, hw⟩] at CW
  have CW := hide CW
  have CL := hide (fun W' => rlist_calls hw hc v W')
  unfold vecV at CL ⊢
  clear hw hc
  go_enter Tryd.func15, Tryd.ntmps15
  go_wp2_with ((with_reducible refine (CW.out _).mono ?_); rintro e w1 ⟨rfl, rfl⟩)
  refine (CL.out _).mono ?_
  rintro e w2 ⟨g, cap, cur, hg, rfl, hcap, hblk, hcell, hb⟩
  have BN := hide (HB.out.trans (hb.mono HB.out.size))
  have HG : Hide (W.heap.size ≤ g) := hide (Nat.le_trans HB.out.size hg)
  have HK := hide hblk
  have HC := hide hcell
  clear hb hg hblk hcell
  go_wp2
  refine bodyPost_ret (v := .tuple #[.slice (some ⟨g, 0, none⟩) c cap, .int .i64 0]) (by simp [results, Tryd.results15, go_sem]) rfl ?_
  exact ⟨g, cap, cur, HG.out, rfl, hcap, HK.out, HC.out, BN.out⟩

set_option maxHeartbeats 1000000 in
theorem rof_bad (w : Int) (a : Option Addr) (len cap : Nat) (h : isW w = false ∨ ∃ m c : Nat, w = m ∧ IsW m ∧ 128 / m = c ∧ len ≠ c ∧ len ≤ 2 ^ 63 - 1) (W : World) :
    Calls Tryd.prog 17 #[.int .i64 w, .slice a len cap] W fun e W' => e = .returned (vecE ((0, 0), 2)) ∧ Below W.heap.size W W' := by
  have HB := hide (below_two W (.cells #[.int .u64 0, .int .u64 0] 24))
  have CW := width_calls w
  rcases h with h | ⟨m, c, rfl, hm, hc, hne, hlen⟩
  · rw [h] at CW
    have CW := hide CW
    clear h
    go_enter Tryd.func17, Tryd.ntmps17
    go_wp2_with ((with_reducible refine (CW.out _).mono ?_); rintro e w1 ⟨rfl, rfl⟩)
    refine bodyPost_ret (v := vecE ((0, 0), 2)) (VBlk.result2 (v := (0, 0)) (alloc_at (g := W.heap.size) rfl) (by rfl) _ rfl rfl) rfl ?_
    exact ⟨rfl, HB.out⟩
  · rw [(isW_iff m).2 ⟨m, rfl, hm⟩] at CW
    have CW := hide CW
    have hq := q128 hm
    rw [hc] at hq
    have hw0 : ((m : Int) == 0) = false := by have := hm.pos; simp; omega
    have hw1 : (m : Int) ≠ 0 := by have := hm.pos; omega
    have hc16 : c ≤ 16 := by rw [← hc]; rcases hm with rfl | rfl | rfl | rfl <;> decide
    have hwc : wrap64 (c : Int) = (c : Int) := wrap64_nat (by omega)
    have hn1 : ((len : Int) == (c : Int)) = false := by simp; omega
    have hn3 : ¬ ((len : Int) = (c : Int)) := by omega
    clear hc hm
    go_enter Tryd.func17, Tryd.ntmps17
    go_wp2_with ((with_reducible refine (CW.out _).mono ?_); rintro e w1 ⟨rfl, rfl⟩)
    refine bodyPost_ret (v := vecE ((0, 0), 2)) (VBlk.result2 (v := (0, 0)) (alloc_at (g := W.heap.size) rfl) (by rfl) _ rfl rfl) rfl ?_
    exact ⟨rfl, HB.out⟩

theorem fit_ok1 {w : Nat} (hw : IsW w) (n : Int) : decide (n ≤ mo w) = ok1 (w : Int) n := by
  unfold ok1
  rw [(isW_iff w).2 ⟨w, rfl, hw⟩]
  simp

set_option maxHeartbeats 1000000 in
theorem rof_ok {w c : Nat} (hw : IsW w) (hc : 128 / w = c) (b off cap : Nat) (l : List Nat) (hl : l.length = c) (W : World)
    (hcell : ∀ i, i < c → W.cell? ⟨b, off + i, none⟩ = some (.int .u64 (at0 l i : Int))) :
    Calls Tryd.prog 17 #[.int .i64 (w : Int), .slice (some ⟨b, off, none⟩) c cap] W fun e W' => e = .returned (vecE (if okAll w l then (vecN w l, 0) else ((0, 0), 2))) ∧ Below W.heap.size W W' := by
  have HB := hide (below_two W (.cells #[.int .u64 0, .int .u64 0] 24))
  have RB : Hide (VBlk (W.alloc (.cells #[.int .u64 0, .int .u64 0] 24)) W.heap.size (0, 0)) := hide (alloc_at rfl)
  have CW := width_calls (w : Int)
  rw [(isW_iff w).2 ⟨w, rfl, hw⟩] at CW
  have CW := hide CW
  have FT : Hide (∀ (n : Int) W', Calls Tryd.prog 40 #[.int .i64 (w : Int), .int .u64 n] W' fun e W'' => e = .returned (.bool (ok1 (w : Int) n)) ∧ W'' = W') := hide (fun n W' => by
    have := rfits_calls hw n W'
    rwa [fit_ok1 hw] at this)
  have CV : Hide ((∀ k, k < c → ok1 (w : Int) (at0 l k : Int) = true) → ∀ W', (∀ i, i < c → W'.cell? ⟨b, off + i, none⟩ = some (.int .u64 (at0 l i : Int))) → Calls Tryd.prog 41 #[.int .i64 (w : Int), .slice (some ⟨b, off, none⟩) c cap] W' fun e W'' => e = .returned (vecV (vecN w l)) ∧ Below W'.heap.size W' W'') := hide (fun hok W' hcl => by
    refine rvec_calls hw hc b off cap l (fun k => ?_) W' hcl
    by_cases e : k < c
    · exact ok1_lt (hok k e)
    · have e' : l[k]? = none := List.getElem?_eq_none (by omega)
      unfold at0; rw [e']; exact Nat.two_pow_pos w)
  have hq := q128 hw
  rw [hc] at hq
  have hw0 : ((w : Int) == 0) = false := by have := hw.pos; simp; omega
  have hw1 : (w : Int) ≠ 0 := by have := hw.pos; omega
  have hc16 : c ≤ 16 := by rw [← hc]; rcases hw with rfl | rfl | rfl | rfl <;> decide
  have hwc : wrap64 (c : Int) = (c : Int) := wrap64_nat (by omega)
  have HL := hide hl
  have HC := hide hcell
  obtain ⟨R, hR⟩ : ∃ R, (if okAll w l then (vecN w l, 0) else (((0, 0) : Nat × Nat), (2 : Int))) = R := ⟨_, rfl⟩
  rw [hR]
  have HR := hide hR
  clear hl hc hw hcell hR
  go_enter Tryd.func17, Tryd.ntmps17
  go_wp2_with ((with_reducible refine (CW.out _).mono ?_); rintro e w1 ⟨rfl, rfl⟩)
  go_loop [6] (fun x => ∃ k : Nat, x = .int .i64 (k : Int) ∧ k ≤ c ∧ (∀ j, j < k → ok1 (w : Int) (at0 l j : Int) = true)) (fun x => c - (intOf x).toNat)
  case atStart => exact ⟨0, rfl, by omega, fun j hj => by omega⟩
  case round =>
    obtain ⟨k, rfl, hk, hok⟩ := hrel
    have HOK := hide hok
    clear hq hok
    by_cases c0 : k < c
    · have c1 : (k : Int) < (c : Int) := by omega
      have c2 : (k : Int) < 16 := by omega
      have hck := cell_later HB.out (HC.out k c0) (Nat.le_refl _)
      have FK := FT.out (at0 l k : Int)
      cases ho : ok1 (w : Int) (at0 l k : Int) with
      | false =>
        rw [ho] at FK
        have FK := hide FK
        have e1 := okAll_false (w := (w : Int)) (k := k) (by rw [HL.out]; exact c0) ho
        have e2 : R = ((0, 0), 2) := by rw [← HR.out, e1]; rfl
        subst e2
        clear ho e1 HR
        generalize at0 l k = n at *
        go_wp2_with ((with_reducible refine (FK.out _).mono ?_); rintro e w1 ⟨rfl, rfl⟩)
        refine bodyPost_ret (v := vecE ((0, 0), 2)) (VBlk.result2 (v := (0, 0)) (alloc_at (g := W.heap.size) rfl) (by rfl) _ rfl rfl) rfl ?_
        exact ⟨rfl, HB.out⟩
      | true =>
        rw [ho] at FK
        have FK := hide FK
        have OK2 : Hide (∀ j, j < k + 1 → ok1 (w : Int) (at0 l j : Int) = true) := hide (fun j hj => by
          by_cases e : j = k
          · subst e; exact ho
          · exact HOK.out j (by omega))
        clear ho
        generalize at0 l k = n at *
        go_wp2_with ((with_reducible refine (FK.out _).mono ?_); rintro e w1 ⟨rfl, rfl⟩)
        go_round
        case rel => exact ⟨k + 1, by go_num, by omega, OK2.out⟩
        case measure => simp [intOf]; omega
    · obtain rfl : k = c := by omega
      have e2 : R = (vecN w l, 0) := by rw [← HR.out, okAll_true (by rw [HL.out]; exact HOK.out)]; rfl
      subst e2
      have CV2 := hide (CV.out HOK.out _ (fun i hi => cell_later HB.out (HC.out i hi) (Nat.le_refl _)))
      obtain ⟨⟨fp, fq⟩, hF⟩ : ∃ F, vecN w l = F := ⟨_, rfl⟩
      have HF := hide hF
      rw [hF] at CV2
      unfold vecV at CV2
      simp only at CV2
      clear CV HR hF
      go_wp2_with fail
      refine CV2.out.mono ?_
      rintro e w2 ⟨rfl, hb⟩
      have R2 := hide (RB.out.later hb RB.out.lt)
      have BN := hide (HB.out.trans (hb.mono HB.out.size))
      have g0 := R2.out.c0
      have g1 := R2.out.c1
      have z0 := R2.out.frozen 0
      have z1 := R2.out.frozen 1
      clear hb
      go_wp2
      refine bodyPost_ret (v := vecE ((fp, fq), 0)) ((R2.out.set2 fp fq).result2 (by rfl) _ rfl rfl) rfl ?_
      exact ⟨by rw [HF.out], (BN.out.setCell (by simp) _).setCell (by simp) _⟩

theorem rof_calls (w : Int) (a : Option Addr) (len cap : Nat) (l : List Nat) (W : World) (hr : RowW W a len l) :
    Calls Tryd.prog 17 #[.int .i64 w, .slice a len cap] W fun e W' => e = .returned (vecE (ofV w l)) ∧ Below W.heap.size W W' := by
  obtain ⟨h1, h2, h3, h4⟩ := hr
  unfold ofV
  cases h : isW w with
  | false => simpa using rof_bad w a len cap (.inl h) W
  | true =>
    obtain ⟨m, rfl, hm⟩ := (isW_iff w).1 h
    by_cases c : len = 128 / m
    · obtain ⟨b, off, rfl, hc⟩ := h4 (by rw [c]; rcases hm with rfl | rfl | rfl | rfl <;> decide)
      have e : (l.length == 128 / (m : Int).toNat) = true := by simp [h1, c]
      rw [e]
      subst c
      simpa using rof_ok hm rfl b off cap l h1 W hc
    · have e : (l.length == 128 / (m : Int).toNat) = false := by simp [h1, c]
      rw [e]
      simpa using rof_bad m a len cap (.inr ⟨m, _, rfl, hm, rfl, c, h2⟩) W
end Go.Proofs.YtdhanapmknlobaaDoor
