/-
  The document's Get, Set, Of, Splat, All.
-/
import Derived.Test.YtdhanapmknlobaaDoorLanRef3
set_option linter.unusedVariables false
set_option linter.unusedSimpArgs false
namespace Go.Proofs.YtdhanapmknlobaaDoor
open Go.RowKit Lan

theorem isL_false {w i : Int} (h : isL w i = false) : isW w = false ∨ (∃ n : Nat, w = n ∧ IsW n ∧ (i < 0 ∨ (0 ≤ i ∧ ((128 / n : Nat) : Int) ≤ i))) := by
  unfold isL at h
  cases hw : isW w with
  | false => exact .inl rfl
  | true =>
    obtain ⟨n, rfl, hn⟩ := (isW_iff w).1 hw
    refine .inr ⟨n, rfl, hn, ?_⟩
    rw [hw] at h
    simp only [Bool.true_and, Bool.and_eq_false_iff, decide_eq_false_iff_not] at h
    rcases hn with rfl | rfl | rfl | rfl <;> simp at h ⊢ <;> omega

theorem row_cell {w : World} {g : Nat} {cur : Array Value} {t : TypeId} {fr : Nat × Nat} {i : Nat} {x : Value} (h : w.heap[g]? = some (.cells cur t fr)) (hx : cur[i]? = some x) : w.cell? ⟨g, i, none⟩ = some x := by
  simp [World.cell?, h, hx]

set_option maxHeartbeats 1000000 in
theorem rget_calls (v : Nat × Nat) (w i : Int) (W : World) :
    Calls Tryd.prog 10 #[vecV v, .int .i64 w, .int .i64 i] W fun e W' => e = .returned (pairV (getV v w i)) ∧ Below W.heap.size W W' := by
  have HB := hide (below_two W (.cells #[.int .u64 (v.1 : Int), .int .u64 (v.2 : Int)] 24))
  have CW := width_calls w
  unfold getV
  cases h : isL w i with
  | false =>
    simp only [Bool.false_eq_true, if_false]
    unfold vecV
    rcases isL_false h with hw | ⟨n, rfl, hn, hi⟩
    · rw [hw] at CW
      have CW := hide CW
      clear h hw
      go_enter Tryd.func10, Tryd.ntmps10
      go_wp2_with ((with_reducible refine (CW.out _).mono ?_); rintro e w1 ⟨rfl, rfl⟩)
      refine bodyPost_ret (v := .tuple #[.int .u64 0, .int .i64 2]) (by simp [results, Tryd.results10, go_sem]) rfl ?_
      exact ⟨rfl, HB.out⟩
    · rw [(isW_iff n).2 ⟨n, rfl, hn⟩] at CW
      have CW := hide CW
      have hq := q128 hn
      have hw1 : (n : Int) ≠ 0 := by have := hn.pos; omega
      have hw0 : ((n : Int) == 0) = false := by have := hn.pos; simp; omega
      have hc16 : 128 / n ≤ 16 := by rcases hn with rfl | rfl | rfl | rfl <;> decide
      generalize 128 / n = c at *
      have hwc : wrap64 (c : Int) = (c : Int) := wrap64_nat (by omega)
      clear h hn
      rcases hi with hi | ⟨hi, hi2⟩
      · have d1 : decide (i < 0) = true := by simpa using hi
        clear hc16 hq
        go_enter Tryd.func10, Tryd.ntmps10
        go_wp2_with ((with_reducible refine (CW.out _).mono ?_); rintro e w1 ⟨rfl, rfl⟩)
        refine bodyPost_ret (v := .tuple #[.int .u64 0, .int .i64 2]) (by simp [results, Tryd.results10, go_sem]) rfl ?_
        exact ⟨rfl, HB.out⟩
      · have d1 : decide (i < 0) = false := by simpa using hi
        have d2 : decide ((c : Int) ≤ i) = true := by simpa using hi2
        have d3 : decide (i ≥ (c : Int)) = true := by simpa using hi2
        clear hc16
        go_enter Tryd.func10, Tryd.ntmps10
        go_wp2_with ((with_reducible refine (CW.out _).mono ?_); rintro e w1 ⟨rfl, rfl⟩)
        refine bodyPost_ret (v := .tuple #[.int .u64 0, .int .i64 2]) (by simp [results, Tryd.results10, go_sem]) rfl ?_
        exact ⟨rfl, HB.out⟩
  | true =>
    obtain ⟨n, m, rfl, rfl, hn, hm⟩ := isL_true h
    simp only [if_true, Int.toNat_natCast]
    rw [(isW_iff n).2 ⟨n, rfl, hn⟩] at CW
    have CW := hide CW
    have CL := hide (fun W' => rlist_calls hn rfl v W')
    have AT := hide (at_list v n m hm)
    have VB : Hide (VBlk (W.alloc (.cells #[.int .u64 (v.1 : Int), .int .u64 (v.2 : Int)] 24)) W.heap.size v) := hide (alloc_at rfl)
    have hq := q128 hn
    have hw1 : (n : Int) ≠ 0 := by have := hn.pos; omega
    have hw0 : ((n : Int) == 0) = false := by have := hn.pos; simp; omega
    have hc16 : 128 / n ≤ 16 := by rcases hn with rfl | rfl | rfl | rfl <;> decide
    obtain ⟨z, hz⟩ : ∃ z, laneN v n m = z := ⟨_, rfl⟩
    rw [hz] at AT ⊢
    clear hz
    unfold vecV at CL ⊢
    generalize 128 / n = c at *
    have hwc : wrap64 (c : Int) = (c : Int) := wrap64_nat (by omega)
    have c1 : (m : Int) < (c : Int) := by omega
    have HM := hide hm
    clear h hn hm
    go_enter Tryd.func10, Tryd.ntmps10
    go_wp2_with ((with_reducible refine (CW.out _).mono ?_); rintro e w1 ⟨rfl, rfl⟩)
    refine (CL.out _).mono ?_
    rintro e w2 ⟨g, cap, cur, hg, rfl, hcap, hblk, hcell, hb⟩
    have BN := hide (HB.out.trans (hb.mono HB.out.size))
    have hc := row_cell hblk (hcell m HM.out)
    rw [AT.out] at hc
    clear hb hcell hblk hq
    go_wp2
    refine bodyPost_ret (v := .tuple #[.int .u64 (z : Int), .int .i64 0]) (by simp [results, Tryd.results10, go_sem]) rfl ?_
    exact ⟨rfl, BN.out⟩

theorem set_at {l : List Nat} {i k n : Nat} (hi : i < l.length) : at0 (l.set i n) k = if k = i then n else at0 l k := by
  unfold at0
  rw [List.getElem?_set]
  by_cases e : i = k
  · subst e; simp [hi]
  · rw [if_neg e, if_neg (fun h => e (Eq.symm h))]

/-- The vector of the lanes, one of them laid anew. -/
theorem vec_set {v : Nat × Nat} {w i n : Nat} (hw : IsW w) (hv : Vok v) (hi : i < 128 / w) (hn : n < 2 ^ w) : vecN w ((listN v w).set i n) = withN v w i n := by
  have hl : Lanes w ((listN v w).set i n) := by
    intro k
    rw [set_at (by rw [listN_length]; exact hi)]
    split
    · exact hn
    · exact list_lanes v w k
  refine vec_ext (vecTo_ok hw hl _ (Nat.le_refl _)) (with_ok hw hi hn hv) fun k hk => ?_
  have h1 : k / w < 128 / w := by rcases hw with rfl | rfl | rfl | rfl <;> omega
  have h2 : k % w < w := Nat.mod_lt _ hw.pos
  have h3 : k / w * w + k % w = k := by rw [Nat.mul_comm]; exact Nat.div_add_mod k w
  rw [bv_vec hw hl k hk, bv_with hw hi hn, set_at (by rw [listN_length]; exact hi)]
  by_cases e : k / w = i
  · have e1 : i * w ≤ k ∧ k < i * w + w := by rw [← e]; omega
    have e2 : k % w = k - i * w := by rw [← e]; omega
    rw [if_pos e, if_pos e1, e2]
  · have e1 : ¬ (i * w ≤ k ∧ k < i * w + w) := by
      intro ⟨a, b⟩
      exact e (Nat.div_eq_of_lt_le a (by rw [Nat.succ_mul]; exact b))
    rw [if_neg e, if_neg e1, at_list v w _ h1, tb_lane hw h1, h3]
    simp [h2]

/-- Not (isL and ok1), told as the document asks it. -/
theorem not_set {w i : Int} {n : Nat} (h : (isL w i && ok1 w n) = false) :
    isW w = false ∨ (∃ m c : Nat, w = m ∧ IsW m ∧ 128 / m = c ∧ c ≤ 16 ∧ (i < 0 ∨ (0 ≤ i ∧ (c : Int) ≤ i) ∨ (0 ≤ i ∧ i < (c : Int) ∧ decide ((n : Int) ≤ mo m) = false))) := by
  cases hL : isL w i with
  | false =>
    rcases isL_false hL with h1 | ⟨m, rfl, hm, hi⟩
    · exact .inl h1
    · refine .inr ⟨m, _, rfl, hm, rfl, by rcases hm with rfl | rfl | rfl | rfl <;> decide, ?_⟩
      rcases hi with hi | hi
      · exact .inl hi
      · exact .inr (.inl hi)
  | true =>
    obtain ⟨m, k, rfl, rfl, hm, hk⟩ := isL_true hL
    rw [hL, Bool.true_and] at h
    refine .inr ⟨m, _, rfl, hm, rfl, by rcases hm with rfl | rfl | rfl | rfl <;> decide, .inr (.inr ⟨by omega, by omega, ?_⟩)⟩
    unfold ok1 at h
    rw [(isW_iff m).2 ⟨m, rfl, hm⟩, Bool.true_and] at h
    simpa using h

set_option maxHeartbeats 1000000 in
theorem rset_bad (v : Nat × Nat) (w i : Int) (n : Nat) (h : (isL w i && ok1 w n) = false) (W : World) :
    Calls Tryd.prog 12 #[vecV v, .int .i64 w, .int .i64 i, .int .u64 (n : Int)] W fun e W' => e = .returned (vecE ((0, 0), 2)) ∧ Below W.heap.size W W' := by
  have BB : Below W.heap.size W ((W.alloc (.cells #[.int .u64 (v.1 : Int), .int .u64 (v.2 : Int)] 24)).alloc (.cells #[.int .u64 0, .int .u64 0] 24)) := (below_two _ _).alloc (by simp) _
  have HB := hide BB
  have CW := width_calls w
  unfold vecV
  rcases not_set h with hw | ⟨m, c, rfl, hm, hc, hc16, hi⟩
  · rw [hw] at CW
    have CW := hide CW
    clear h hw BB
    go_enter Tryd.func12, Tryd.ntmps12
    go_wp2_with ((with_reducible refine (CW.out _).mono ?_); rintro e w1 ⟨rfl, rfl⟩)
    refine bodyPost_ret (v := vecE ((0, 0), 2)) (VBlk.result2 (v := (0, 0)) (alloc_at (g := W.heap.size + 1) (by simp)) (by rfl) _ rfl rfl) rfl ?_
    exact ⟨rfl, HB.out⟩
  · rw [(isW_iff m).2 ⟨m, rfl, hm⟩] at CW
    have CW := hide CW
    have FT := hide (rfits_calls hm n)
    have hq := q128 hm
    rw [hc] at hq
    have hw1 : (m : Int) ≠ 0 := by have := hm.pos; omega
    have hw0 : ((m : Int) == 0) = false := by have := hm.pos; simp; omega
    have hwc : wrap64 (c : Int) = (c : Int) := wrap64_nat (by omega)
    clear h hm BB hc
    rcases hi with hi | ⟨hi, hi2⟩ | ⟨hi, hi2, hi3⟩
    · have d1 : decide (i < 0) = true := by simpa using hi
      clear hc16 hq FT
      go_enter Tryd.func12, Tryd.ntmps12
      go_wp2_with ((with_reducible refine (CW.out _).mono ?_); rintro e w1 ⟨rfl, rfl⟩)
      refine bodyPost_ret (v := vecE ((0, 0), 2)) (VBlk.result2 (v := (0, 0)) (alloc_at (g := W.heap.size + 1) (by simp)) (by rfl) _ rfl rfl) rfl ?_
      exact ⟨rfl, HB.out⟩
    · have d1 : decide (i < 0) = false := by simpa using hi
      have d2 : decide ((c : Int) ≤ i) = true := by simpa using hi2
      clear hc16 FT
      go_enter Tryd.func12, Tryd.ntmps12
      go_wp2_with ((with_reducible refine (CW.out _).mono ?_); rintro e w1 ⟨rfl, rfl⟩)
      refine bodyPost_ret (v := vecE ((0, 0), 2)) (VBlk.result2 (v := (0, 0)) (alloc_at (g := W.heap.size + 1) (by simp)) (by rfl) _ rfl rfl) rfl ?_
      exact ⟨rfl, HB.out⟩
    · have d1 : decide (i < 0) = false := by simpa using hi
      have d2 : decide ((c : Int) ≤ i) = false := by simpa using hi2
      rw [hi3] at FT
      clear hc16 hi3
      go_enter Tryd.func12, Tryd.ntmps12
      go_wp2_with (first | ((with_reducible refine (CW.out _).mono ?_); rintro e w1 ⟨rfl, rfl⟩) | ((with_reducible refine (FT.out _).mono ?_); rintro e w1 ⟨rfl, rfl⟩))
      refine bodyPost_ret (v := vecE ((0, 0), 2)) (VBlk.result2 (v := (0, 0)) (alloc_at (g := W.heap.size + 1) (by simp)) (by rfl) _ rfl rfl) rfl ?_
      exact ⟨rfl, HB.out⟩

set_option maxHeartbeats 1000000 in
theorem rset_ok (v : Nat × Nat) (hv : Vok v) (w i n : Nat) (hw : IsW w) (hi : i < 128 / w) (hn : n < 2 ^ w) (W : World) :
    Calls Tryd.prog 12 #[vecV v, .int .i64 (w : Int), .int .i64 (i : Int), .int .u64 (n : Int)] W fun e W' => e = .returned (vecE (withN v w i n, 0)) ∧ Below W.heap.size W W' := by
  have BB : Below W.heap.size W ((W.alloc (.cells #[.int .u64 (v.1 : Int), .int .u64 (v.2 : Int)] 24)).alloc (.cells #[.int .u64 0, .int .u64 0] 24)) := (below_two _ _).alloc (by simp) _
  have HB := hide BB
  have RB : Hide (VBlk ((W.alloc (.cells #[.int .u64 (v.1 : Int), .int .u64 (v.2 : Int)] 24)).alloc (.cells #[.int .u64 0, .int .u64 0] 24)) (W.heap.size + 1) (0, 0)) := hide (alloc_at (by simp))
  have CW := width_calls (w : Int)
  rw [(isW_iff w).2 ⟨w, rfl, hw⟩] at CW
  have CW := hide CW
  have FT := rfits_calls hw (n : Int)
  rw [decide_eq_true (show (n : Int) ≤ mo w by rw [mo_nat]; have := Nat.two_pow_pos w; omega)] at FT
  have FT := hide FT
  have CL := hide (fun W' => rlist_calls hw rfl v W')
  have hl : Lanes w ((listN v w).set i n) := by
    intro k
    rw [set_at (by rw [listN_length]; exact hi)]
    split
    · exact hn
    · exact list_lanes v w k
  have CV := hide (fun g cap W' hc => rvec_calls hw rfl g 0 cap ((listN v w).set i n) hl W' hc)
  rw [vec_set hw hv hi hn] at CV
  have SA := hide (fun k => set_at (l := listN v w) (i := i) (k := k) (n := n) (by rw [listN_length]; exact hi))
  have hq := q128 hw
  have hw1 : (w : Int) ≠ 0 := by have := hw.pos; omega
  have hw0 : ((w : Int) == 0) = false := by have := hw.pos; simp; omega
  have hc16 : 128 / w ≤ 16 := by rcases hw with rfl | rfl | rfl | rfl <;> decide
  obtain ⟨⟨fp, fq⟩, hF⟩ : ∃ F, withN v w i n = F := ⟨_, rfl⟩
  rw [hF] at CV ⊢
  generalize listN v w = L at *
  unfold vecV at CL CV ⊢
  generalize 128 / w = c at *
  have hwc : wrap64 (c : Int) = (c : Int) := wrap64_nat (by omega)
  have c1 : (i : Int) < (c : Int) := by omega
  have HI := hide hi
  simp only at CV
  clear BB hw hi hn hv hl hF
  go_enter Tryd.func12, Tryd.ntmps12
  go_wp2_with (first | ((with_reducible refine (CW.out _).mono ?_); rintro e w1 ⟨rfl, rfl⟩) | ((with_reducible refine (FT.out _).mono ?_); rintro e w1 ⟨rfl, rfl⟩))
  refine (CL.out _).mono ?_
  rintro e w2 ⟨g, cap, cur, hg, rfl, hcap, hblk, hcell, hb⟩
  have BN := hide (HB.out.trans (hb.mono HB.out.size))
  have RN := hide (RB.out.later hb RB.out.lt)
  have hgw : W.heap.size + 1 < g := by simp at hg; omega
  have hc := row_cell hblk (hcell i HI.out)
  have hz : w2.frozen? ⟨g, i, none⟩ = false := frozen_of_row w2 g i _ _ hblk
  have hblk2 := heap_setCell_same w2 g i cur 22 (.int .u64 (n : Int)) hblk
  have hcells : ∀ k, k < c → (w2.setCell ⟨g, i, none⟩ (.int .u64 (n : Int))).cell? ⟨g, 0 + k, none⟩ = some (.int .u64 (at0 (L.set i n) k : Int)) := by
    intro k hk
    rw [Nat.zero_add]
    refine row_cell hblk2 ?_
    have hck := hcell k hk
    have hi' := hcell i HI.out
    rw [SA.out k, Array.getElem?_setIfInBounds]
    by_cases e : i = k
    · subst e
      rw [if_pos rfl, if_pos rfl, if_pos (Array.getElem?_eq_some_iff.1 hi').1]
    · rw [if_neg e, if_neg (fun h => e h.symm)]; exact hck
  have HC := hide hcells
  have HG := hide hgw
  clear hb hcell hblk hblk2 hcells hq hg hgw
  go_wp2_with fail
  refine (CV.out g cap _ HC.out).mono ?_
  rintro e w3 ⟨rfl, hb⟩
  have hg := HG.out
  have R3 := hide ((RN.out.other (by omega) i (.int .u64 (n : Int))).later hb (by simp; have := RN.out.lt; omega))
  have B3 := hide ((BN.out.setCell (p := ⟨g, i, none⟩) (by simp; omega) (.int .u64 (n : Int))).trans (hb.mono (by simp; have := BN.out.size; omega)))
  have g0 := R3.out.c0
  have g1 := R3.out.c1
  have z0 := R3.out.frozen 0
  have z1 := R3.out.frozen 1
  clear hb hg hc hz
  go_wp2
  refine bodyPost_ret (v := vecE ((fp, fq), 0)) ((R3.out.set2 fp fq).result2 (by rfl) _ rfl rfl) rfl ?_
  exact ⟨rfl, (B3.out.setCell (by simp) _).setCell (by simp) _⟩

theorem rset_calls (v : Nat × Nat) (hv : Vok v) (w i : Int) (n : Nat) (W : World) :
    Calls Tryd.prog 12 #[vecV v, .int .i64 w, .int .i64 i, .int .u64 (n : Int)] W fun e W' => e = .returned (vecE (setV v w i n)) ∧ Below W.heap.size W W' := by
  unfold setV
  cases h : (isL w i && ok1 w n) with
  | false => simpa using rset_bad v w i n h W
  | true =>
    simp only [Bool.and_eq_true] at h
    obtain ⟨m, k, rfl, rfl, hm, hk⟩ := isL_true h.1
    simpa using rset_ok v hv m k n hm hk (ok1_lt h.2) W
end Go.Proofs.YtdhanapmknlobaaDoor
