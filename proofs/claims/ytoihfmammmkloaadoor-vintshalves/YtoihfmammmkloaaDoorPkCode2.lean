/-
  VinCat, VinApart, VinWide, VinNar, VinSums, VinTim.
-/
import Derived.Test.YtoihfmammmkloaaDoorPkCode
import Derived.Test.YtoihfmammmkloaaDoorPkRef
import Derived.Test.YtoihfmammmkloaaDoorPkVinB
import Derived.Lib.AppendZerosOnto
import Derived.Lib.SliceRun
import Derived.LoopN
/-
  slices.Grow, Concat; vints.half, joined.
-/
set_option linter.unusedVariables false
set_option linter.unusedSimpArgs false
namespace Go.Proofs.YtoihfmammmkloaaDoor
open Go.RowKit Lan

set_option maxHeartbeats 1000000 in
theorem half_low (g n : Nat) (hn : n ≤ 8) (W : World) :
    Calls Tryd.prog 59 #[.slice (some ⟨g, 0, none⟩) (2 * n) (2 * n), .bool false] W fun e W' => e = .returned (.slice (some ⟨g, 0, none⟩) n n) ∧ W' = W := by
  have h1 : ((2 * n : Nat) : Int).tdiv 2 = (n : Int) := by
    rw [Int.tdiv_eq_ediv_of_nonneg (by omega)]; omega
  rcases (show n = 0 ∨ n = 1 ∨ n = 2 ∨ n = 3 ∨ n = 4 ∨ n = 5 ∨ n = 6 ∨ n = 7 ∨ n = 8 by omega) with rfl | rfl | rfl | rfl | rfl | rfl | rfl | rfl | rfl
  all_goals
    go_enter Tryd.func59, Tryd.ntmps59
    go_wp2
    go_ret
    exact ⟨rfl, rfl⟩
set_option maxHeartbeats 1000000 in
theorem half_high (g n : Nat) (hn : n ≤ 8) (W : World) :
    Calls Tryd.prog 59 #[.slice (some ⟨g, 0, none⟩) (2 * n) (2 * n), .bool true] W fun e W' => e = .returned (.slice (some ⟨g, n, none⟩) n n) ∧ W' = W := by
  rcases (show n = 0 ∨ n = 1 ∨ n = 2 ∨ n = 3 ∨ n = 4 ∨ n = 5 ∨ n = 6 ∨ n = 7 ∨ n = 8 by omega) with rfl | rfl | rfl | rfl | rfl | rfl | rfl | rfl | rfl
  all_goals
    go_enter Tryd.func59, Tryd.ntmps59
    go_wp2
    go_ret
    exact ⟨rfl, rfl⟩

set_option maxHeartbeats 2000000 in
theorem grow_calls (n : Nat) (h0 : 0 < n) (hn : n ≤ 32) (W : World) :
    Calls Tryd.prog 107 #[.slice none 0 0, .int .i64 (n : Int)] W fun e W' => ListOwn W [] e W' := by
  obtain ⟨i0, hi, hz0, hz1, hz2⟩ := info_parts infoW
  have hrz : ∀ ty, (Builtin.append_ #[51, 3] ty #[.slice none 0 0, .int .i64 (n : Int)]).run Tryd.prog W =
      .ok (.slice (some ⟨W.heap.size, 0, none⟩) n (grownCap W n 0 23)) (W.drew.alloc (.cells (#[] ++ Builtin.zeroCells #[Value.int .u64 0] n ++ Builtin.zeroCells #[Value.int .u64 0] (grownCap W n 0 23 - n)) 23)) := fun ty => by
    have h := Lib.run_append_grow_zeros (P := Tryd.prog) W 51 3 ty 23 i0 (.int .u64 0) .i64 .i64 Tryd.underlying51 Tryd.underlying3 hi hz0 none 0 0 [] (run_firstCells_none W.drew i0.size 0 0 0) n h0 (by rw [hz1]; decide) (by omega) (by omega) (by rw [hz2]; omega)
      (by rw [hz2]; exact growslice_fits (by omega) (by omega))
    have hcs : (Value.int .u64 0).cells = #[Value.int .u64 0] := rfl
    rw [hcs] at h
    simpa using h
  have hGn : n ≤ grownCap W n 0 23 := grownCap_ge W _ _ _
  have hG63 : grownCap W n 0 23 ≤ maxLen := grownCap_le_maxLen W n 0 23 (by unfold maxLen; omega)
  obtain ⟨G, hG⟩ : ∃ G, G = grownCap W n 0 23 := ⟨_, rfl⟩
  rw [← hG] at hrz hGn hG63
  clear hG
  have h1 : ¬ ((n : Int) < 0) := by omega
  have h3 : wrap64 (n : Int) = (n : Int) := by unfold wrap64; omega
  have h4 : (n : Int) > 0 := by omega
  have hG' : G ≤ 9223372036854775807 := by unfold maxLen at hG63; omega
  go_enter Tryd.func107, Tryd.ntmps107
  go_wp2_with (at_builtin; refine Lib.wpList_append_run _ rfl _ _ _ _ rfl _ _ rfl rfl _ _ (hrz _) ?_)
  refine bodyPost_ret (v := .slice (some ⟨W.heap.size, 0, none⟩) 0 G) (by simp [results, Tryd.results107, go_sem]) rfl ?_
  refine ⟨_, rfl, ⟨rfl, .inr ⟨W.heap.size, G, _, rfl, Nat.le_refl _, alloc_at rfl, Nat.zero_le _, hG63, ?_, rfl⟩⟩, (below_two W _).drew⟩
  simp [Builtin.zeroCells]
  omega

def valsW (L : List Nat) : List Value := L.map fun n : Nat => Value.int .u64 (n : Int)
theorem vals_length (L : List Nat) : (valsW L).length = L.length := by simp [valsW]
theorem vals_append (L M : List Nat) : valsW (L ++ M) = valsW L ++ valsW M := by simp [valsW]
theorem vals_one (L : List Nat) : ∀ u ∈ valsW L, u.oneCell' = true := by
  intro u hu
  obtain ⟨n, _, rfl⟩ := List.mem_map.1 hu
  rfl
theorem news {w : World} {g c : Nat} {L : List Nat} (h : Words w g 0 c L) (hl : L.length = c) : ∀ (j : Nat) (u : Value), (valsW L)[j]? = some u → w.cell? ((⟨g, 0, none⟩ : Addr).add j) = some u := by
  intro j u hj
  have hj' : j < L.length := by
    have := (List.getElem?_eq_some_iff.1 hj).1
    simpa [valsW] using this
  have hx := h j (by omega)
  simp only [valsW, List.getElem?_map, List.getElem?_eq_getElem hj', Option.map_some, Option.some.injEq] at hj
  have e : at0 L j = L[j] := by simp [at0, List.getElem?_eq_getElem hj']
  rw [e, hj, Nat.zero_add] at hx
  by_cases h0 : j = 0
  · subst h0; simpa [Addr.add] using hx
  · simpa [Addr.add, h0] using hx
theorem OwnW.vals {w : World} {b : Nat} {v : Value} {l : List Nat} (h : OwnW w b v l) : w.ownsRow b 23 1 v l.length (valsW l) := h

set_option maxHeartbeats 4000000 in
theorem concat_8 (b g1 g2 c1 c2 : Nat) (LA LB : List Nat) (hla : LA.length = 8) (hlb : LB.length = 8) (W : World)
    (h0 : W.cell? ⟨b, 0, none⟩ = some (.slice (some ⟨g1, 0, none⟩) 8 c1)) (h1 : W.cell? ⟨b, 1, none⟩ = some (.slice (some ⟨g2, 0, none⟩) 8 c2))
    (hA : Words W g1 0 8 LA) (hB : Words W g2 0 8 LB) :
    Calls Tryd.prog 95 #[.slice (some ⟨b, 0, none⟩) 2 2] W fun e W' => ListOwn W (LA ++ LB) e W' := by
  obtain ⟨i0, hi, hz0, hz1, hz2⟩ := info_parts infoW
  have CG := hide (grow_calls 16 (by decide) (by decide) W)
  have H0 := hide h0
  have H1 := hide h1
  have HA := hide hA
  have HB := hide hB
  have HLA := hide hla
  have HLB := hide hlb
  clear hla hlb hA hB
  go_enter Tryd.func95, Tryd.ntmps95
  go_wp2_with fail
  refine wp_loop_rounds 3 ?_
  rw [rounds_succ]
  go_wp2_with fail
  rw [rounds_succ]
  go_wp2_with fail
  rw [rounds_succ]
  go_wp2_with fail
  refine CG.out.mono ?_
  rintro e w1 ⟨v, rfl, ho, hb⟩
  obtain ⟨va, vc, hva⟩ := own_shape ho
  have hown : w1.ownsRow W.heap.size 23 1 v 0 [] := ho
  have HB1 := hide hb
  have k0 := cell_later hb H0.out (Nat.le_refl _)
  have k1 := cell_later hb H1.out (Nat.le_refl _)
  have NA := hide (news (HA.out.later hb) HLA.out)
  have NB0 := hide (HB.out.later hb)
  have LNA : Hide ((valsW LA).length = 8 * 1) := hide (by rw [vals_length, HLA.out])
  have LNB : Hide ((valsW LB).length = 8 * 1) := hide (by rw [vals_length, HLB.out])
  have ONA := hide (vals_one LA)
  have ONB := hide (vals_one LB)
  have HVL : Hide ((LA ++ LB).length = 16 ∧ valsW (LA ++ LB) = valsW LA ++ valsW LB) := hide ⟨by rw [List.length_append, HLA.out, HLB.out], vals_append _ _⟩
  have C3 : Hid (0 + 8 ≤ maxLen) := by show 0 + 8 ≤ maxLen; unfold maxLen; omega
  have C4 : Hid ((0 + 8) * 8 ≤ 140737488355328) := by show (0 + 8) * 8 ≤ 140737488355328; omega
  have C5 : Hid (W.heap.size ≤ w1.heap.size) := hb.size
  clear ho hb h0 h1 H0 HA CG HLA NB0
  simp only [List.length_nil] at hva
  subst hva
  go_wp2_with fail
  refine wp_loop_rounds 3 ?_
  rw [rounds_succ]
  go_wp2_with (at_builtin; refine wpList_append_own _ rfl _ _ 51 rfl W.heap.size 23 i0 (.int .u64 0) 1 8 Tryd.underlying51 hi hz0 hz1 hz2 rfl (by decide) _ _ _ rfl hown ⟨g1, 0, none⟩ 8 c1 (valsW LA) rfl LNA.out NA.out ONA.out C3.out C4.out C5.out ?_)
  intro v2 w2 hown2 hgrow2 _
  have hb2 : Below W.heap.size W w2 := HB1.out.grown hgrow2 HB1.out.size (fun k hk => (hown.lt k hk).1)
  have HO2 := hide hown2
  have BW2 := hide hb2
  have m1 := cell_later hb2 H1.out (Nat.le_refl _)
  have NB := hide (news (HB.out.later hb2) HLB.out)
  have D3 : Hid (8 + 8 ≤ maxLen) := by show 8 + 8 ≤ maxLen; unfold maxLen; omega
  have D4 : Hid ((8 + 8) * 8 ≤ 140737488355328) := by show (8 + 8) * 8 ≤ 140737488355328; omega
  have D5 : Hid (W.heap.size ≤ w2.heap.size) := hb2.size
  clear hown2 hgrow2 hb2 k0 k1 hown HB H1 NA LNA ONA HB1
  obtain ⟨vb, vd, hvb⟩ := own_shape HO2.out
  subst hvb
  go_wp2_with fail
  rw [rounds_succ]
  go_wp2_with (at_builtin; refine wpList_append_own _ rfl _ _ 51 rfl W.heap.size 23 i0 (.int .u64 0) 1 8 Tryd.underlying51 hi hz0 hz1 hz2 rfl (by decide) _ _ _ rfl HO2.out ⟨g2, 0, none⟩ 8 c2 (valsW LB) rfl LNB.out NB.out ONB.out D3.out D4.out D5.out ?_)
  intro v3 w3 hown3 hgrow3 _
  have hb3 : Below W.heap.size W w3 := BW2.out.grown hgrow3 BW2.out.size (fun k hk => (HO2.out.lt k hk).1)
  have HO3 := hide hown3
  have BW3 := hide hb3
  clear hown3 hgrow3 hb3 m1 NB
  go_wp2_with fail
  rw [rounds_succ]
  go_wp2
  refine bodyPost_ret (v := v3) (by simp [results, Tryd.results95, go_sem]) rfl ?_
  refine ⟨_, rfl, ?_, BW3.out⟩
  have := HO3.out
  rw [← HVL.out.2] at this
  show w3.ownsRow W.heap.size 23 1 v3 (LA ++ LB).length (valsW (LA ++ LB))
  rw [HVL.out.1]
  exact this
set_option maxHeartbeats 4000000 in
theorem concat_4 (b g1 g2 c1 c2 : Nat) (LA LB : List Nat) (hla : LA.length = 4) (hlb : LB.length = 4) (W : World)
    (h0 : W.cell? ⟨b, 0, none⟩ = some (.slice (some ⟨g1, 0, none⟩) 4 c1)) (h1 : W.cell? ⟨b, 1, none⟩ = some (.slice (some ⟨g2, 0, none⟩) 4 c2))
    (hA : Words W g1 0 4 LA) (hB : Words W g2 0 4 LB) :
    Calls Tryd.prog 95 #[.slice (some ⟨b, 0, none⟩) 2 2] W fun e W' => ListOwn W (LA ++ LB) e W' := by
  obtain ⟨i0, hi, hz0, hz1, hz2⟩ := info_parts infoW
  have CG := hide (grow_calls 8 (by decide) (by decide) W)
  have H0 := hide h0
  have H1 := hide h1
  have HA := hide hA
  have HB := hide hB
  have HLA := hide hla
  have HLB := hide hlb
  clear hla hlb hA hB
  go_enter Tryd.func95, Tryd.ntmps95
  go_wp2_with fail
  refine wp_loop_rounds 3 ?_
  rw [rounds_succ]
  go_wp2_with fail
  rw [rounds_succ]
  go_wp2_with fail
  rw [rounds_succ]
  go_wp2_with fail
  refine CG.out.mono ?_
  rintro e w1 ⟨v, rfl, ho, hb⟩
  obtain ⟨va, vc, hva⟩ := own_shape ho
  have hown : w1.ownsRow W.heap.size 23 1 v 0 [] := ho
  have HB1 := hide hb
  have k0 := cell_later hb H0.out (Nat.le_refl _)
  have k1 := cell_later hb H1.out (Nat.le_refl _)
  have NA := hide (news (HA.out.later hb) HLA.out)
  have NB0 := hide (HB.out.later hb)
  have LNA : Hide ((valsW LA).length = 4 * 1) := hide (by rw [vals_length, HLA.out])
  have LNB : Hide ((valsW LB).length = 4 * 1) := hide (by rw [vals_length, HLB.out])
  have ONA := hide (vals_one LA)
  have ONB := hide (vals_one LB)
  have HVL : Hide ((LA ++ LB).length = 8 ∧ valsW (LA ++ LB) = valsW LA ++ valsW LB) := hide ⟨by rw [List.length_append, HLA.out, HLB.out], vals_append _ _⟩
  have C3 : Hid (0 + 4 ≤ maxLen) := by show 0 + 4 ≤ maxLen; unfold maxLen; omega
  have C4 : Hid ((0 + 4) * 8 ≤ 140737488355328) := by show (0 + 4) * 8 ≤ 140737488355328; omega
  have C5 : Hid (W.heap.size ≤ w1.heap.size) := hb.size
  clear ho hb h0 h1 H0 HA CG HLA NB0
  simp only [List.length_nil] at hva
  subst hva
  go_wp2_with fail
  refine wp_loop_rounds 3 ?_
  rw [rounds_succ]
  go_wp2_with (at_builtin; refine wpList_append_own _ rfl _ _ 51 rfl W.heap.size 23 i0 (.int .u64 0) 1 8 Tryd.underlying51 hi hz0 hz1 hz2 rfl (by decide) _ _ _ rfl hown ⟨g1, 0, none⟩ 4 c1 (valsW LA) rfl LNA.out NA.out ONA.out C3.out C4.out C5.out ?_)
  intro v2 w2 hown2 hgrow2 _
  have hb2 : Below W.heap.size W w2 := HB1.out.grown hgrow2 HB1.out.size (fun k hk => (hown.lt k hk).1)
  have HO2 := hide hown2
  have BW2 := hide hb2
  have m1 := cell_later hb2 H1.out (Nat.le_refl _)
  have NB := hide (news (HB.out.later hb2) HLB.out)
  have D3 : Hid (4 + 4 ≤ maxLen) := by show 4 + 4 ≤ maxLen; unfold maxLen; omega
  have D4 : Hid ((4 + 4) * 8 ≤ 140737488355328) := by show (4 + 4) * 8 ≤ 140737488355328; omega
  have D5 : Hid (W.heap.size ≤ w2.heap.size) := hb2.size
  clear hown2 hgrow2 hb2 k0 k1 hown HB H1 NA LNA ONA HB1
  obtain ⟨vb, vd, hvb⟩ := own_shape HO2.out
  subst hvb
  go_wp2_with fail
  rw [rounds_succ]
  go_wp2_with (at_builtin; refine wpList_append_own _ rfl _ _ 51 rfl W.heap.size 23 i0 (.int .u64 0) 1 8 Tryd.underlying51 hi hz0 hz1 hz2 rfl (by decide) _ _ _ rfl HO2.out ⟨g2, 0, none⟩ 4 c2 (valsW LB) rfl LNB.out NB.out ONB.out D3.out D4.out D5.out ?_)
  intro v3 w3 hown3 hgrow3 _
  have hb3 : Below W.heap.size W w3 := BW2.out.grown hgrow3 BW2.out.size (fun k hk => (HO2.out.lt k hk).1)
  have HO3 := hide hown3
  have BW3 := hide hb3
  clear hown3 hgrow3 hb3 m1 NB
  go_wp2_with fail
  rw [rounds_succ]
  go_wp2
  refine bodyPost_ret (v := v3) (by simp [results, Tryd.results95, go_sem]) rfl ?_
  refine ⟨_, rfl, ?_, BW3.out⟩
  have := HO3.out
  rw [← HVL.out.2] at this
  show w3.ownsRow W.heap.size 23 1 v3 (LA ++ LB).length (valsW (LA ++ LB))
  rw [HVL.out.1]
  exact this

theorem cell_two0 {w : World} {g : Nat} {v u : Value} {t : TypeId} {fr : Nat × Nat} (h : w.heap[g]? = some (.cells #[v, u] t fr)) : w.cell? ⟨g, 0, none⟩ = some v := by simp [World.cell?, h]
theorem cell_two1 {w : World} {g : Nat} {v u : Value} {t : TypeId} {fr : Nat × Nat} (h : w.heap[g]? = some (.cells #[v, u] t fr)) : w.cell? ⟨g, 1, none⟩ = some u := by simp [World.cell?, h]
theorem later2b {W1 W2 W3 : World} (h : Below W1.heap.size W1 W2) (k : Below W2.heap.size W2 W3) : Below W1.heap.size W1 W3 := h.trans (k.mono h.size)

set_option maxHeartbeats 1000000 in
theorem joined_walk (w : Int) (c : Nat) (LA LB : List Nat) (a b : Nat × Nat) (hla : LA.length = c) (hlb : LB.length = c) (W : World)
    (hA : ∀ W', Below W.heap.size W W' → Calls Tryd.prog 51 #[vecV a, .int .i64 w] W' fun e W'' => AllPost W' c LA e W'')
    (hB : ∀ W', Below W.heap.size W W' → Calls Tryd.prog 51 #[vecV b, .int .i64 w] W' fun e W'' => AllPost W' c LB e W'')
    (hC : ∀ (q g1 g2 : Nat) (W' : World), W'.cell? ⟨q, 0, none⟩ = some (.slice (some ⟨g1, 0, none⟩) c c) → W'.cell? ⟨q, 1, none⟩ = some (.slice (some ⟨g2, 0, none⟩) c c) → Words W' g1 0 c LA → Words W' g2 0 c LB →
      Calls Tryd.prog 95 #[.slice (some ⟨q, 0, none⟩) 2 2] W' fun e W'' => ListOwn W' (LA ++ LB) e W'') :
    Calls Tryd.prog 55 #[.int .i64 w, vecV a, vecV b] W fun e W' => ListOwn W (LA ++ LB) e W' := by
  obtain ⟨wa, hwa⟩ : ∃ wa, (W.alloc (.cells #[.int .u64 (a.1 : Int), .int .u64 (a.2 : Int)] 25)).alloc (.cells #[.int .u64 (b.1 : Int), .int .u64 (b.2 : Int)] 25) = wa := ⟨_, rfl⟩
  have B1 : Below W.heap.size W (W.alloc (.cells #[.int .u64 (a.1 : Int), .int .u64 (a.2 : Int)] 25)) := below_two _ _
  have BA : Hide (Below W.heap.size W wa) := hide (by rw [← hwa]; exact B1.alloc B1.size _)
  have VA : VBlk wa W.heap.size a := by rw [← hwa]; exact alloc_past (alloc_at rfl)
  have VB : Hide (VBlk wa (W.heap.size + 1) b) := hide (by rw [← hwa]; exact alloc_at (by simp))
  have CA := hide (hA wa BA.out)
  have CB := hide hB
  have CC := hide hC
  have HLA := hide hla
  have HLB := hide hlb
  have HWA := hide hwa
  clear B1 hwa hA hB hC hla hlb
  obtain ⟨p, q⟩ := a
  obtain ⟨p', q'⟩ := b
  have v0 := VA.c0
  have v1 := VA.c1
  clear VA
  unfold vecV at *
  simp only at CA CB CC v0 v1 ⊢
  go_enter Tryd.func55, Tryd.ntmps55
  go_wp2_with fail
  rw [HWA.out]
  go_wp2_with fail
  refine CA.out.mono ?_
  rintro e w2 ⟨ga, hga, rfl, hWa, hb⟩
  have KB := VB.out.later hb VB.out.lt
  have K2 : Hide (Below W.heap.size W w2) := hide (BA.out.trans (hb.mono BA.out.size))
  have KA := hide hWa
  have C2 := hide (CB.out w2 K2.out)
  have u0 := KB.c0
  have u1 := KB.c1
  simp only at u0 u1
  clear hb hWa hga CA CB VB v0 v1 KB
  go_wp2_with fail
  refine C2.out.mono ?_
  rintro e w3 ⟨gb, hgb, rfl, hWb, hb⟩
  have J2 : Hide (Below W.heap.size W w3) := hide (K2.out.trans (hb.mono K2.out.size))
  have WA := hide ((KA.out.later hb KA.out.lt).words HLA.out)
  have WB := hide (hWb.words HLB.out)
  clear hb hWb hgb C2 K2 KA u0 u1
  go_wp2_with fail
  have BX := below_two w3 (.cells #[.slice (some ⟨ga, 0, none⟩) c c, .slice (some ⟨gb, 0, none⟩) c c] 51)
  have HX : (w3.alloc (.cells #[.slice (some ⟨ga, 0, none⟩) c c, .slice (some ⟨gb, 0, none⟩) c c] 51)).heap[w3.heap.size]? = some (.cells #[.slice (some ⟨ga, 0, none⟩) c c, .slice (some ⟨gb, 0, none⟩) c c] 51) := alloc_at rfl
  refine (CC.out w3.heap.size ga gb _ (cell_two0 HX) (cell_two1 HX) (WA.out.later BX) (WB.out.later BX)).mono ?_
  rintro e w4 ⟨v, rfl, ho, hb⟩
  have HO : Hide (OwnW w4 W.heap.size v (LA ++ LB)) := hide (ho.mono (Nat.le_trans J2.out.size BX.size))
  have BW : Hide (Below W.heap.size W w4) := hide (later2b (later2b J2.out BX) hb)
  clear ho hb BX HX
  go_wp2
  refine bodyPost_ret (v := v) (by simp [results, Tryd.results55, go_sem]) rfl ?_
  exact ⟨v, rfl, HO.out, BW.out⟩

theorem joined_calls {w c : Nat} (hw : IsW w) (hc : 128 / w = c) (h48 : c = 4 ∨ c = 8) (a b : Nat × Nat) (ha : Vok a) (hb : Vok b) (W : World) (hT : WTabs W) :
    Calls Tryd.prog 55 #[.int .i64 (w : Int), vecV a, vecV b] W fun e W' => ListOwn W (listN a w ++ listN b w) e W' := by
  have la : (listN a w).length = c := by rw [listN_length, hc]
  have lb : (listN b w).length = c := by rw [listN_length, hc]
  refine joined_walk (w : Int) c (listN a w) (listN b w) a b la lb W (fun W' hB => lall_ok hw hc a ha W' (hT.later hB)) (fun W' hB => lall_ok hw hc b hb W' (hT.later hB)) (fun q g1 g2 W' h0 h1 hA hB => ?_)
  rcases h48 with rfl | rfl
  · exact concat_4 q g1 g2 4 4 _ _ la lb W' h0 h1 hA hB
  · exact concat_8 q g1 g2 8 8 _ _ la lb W' h0 h1 hA hB
end Go.Proofs.YtoihfmammmkloaaDoor
/-
  Two rows of words of the call's own, that grow by turns.
-/
set_option linter.unusedVariables false
set_option linter.unusedSimpArgs false
namespace Go.Proofs.YtoihfmammmkloaaDoor
open Go.RowKit Lan

/-- Of two values no one block. -/
def apart (u v : Value) : Prop := u.ownBlock = none ∨ v.ownBlock = none ∨ u.ownBlock ≠ v.ownBlock

/-- Behind an append the row lies where it lay, or in new memory. -/
def movedBy (w : World) (v v' : Value) : Prop := v'.ownBlock = v.ownBlock ∨ ∃ k, v'.ownBlock = some k ∧ w.heap.size ≤ k

theorem append_moved (w : World) (b : Nat) (v : Value) (l : List Nat) (hown : OwnW w b v l) (ty : TypeId) (a : Addr) (x : Nat) (hx : w.cell? a = some (.int .u64 (x : Int)))
    (hn : l.length ≤ 32) (hb : b ≤ w.heap.size) :
    ∃ v' w', (Builtin.append_ #[51, 51] ty #[v, .slice (some a) 1 1]).run Tryd.prog w = .ok v' w' ∧ OwnW w' b v' (l ++ [x]) ∧ w.grownBy w' v.ownBlock ∧ movedBy w v v' := by
  obtain ⟨i0, hi, hz0, hz1, hz2⟩ := info_parts infoW
  have hnews : ∀ j u, [Value.int .u64 (x : Int)][j]? = some u → w.cell? (a.add j) = some u := by
    intro j u hj
    cases j with
    | zero =>
      simp only [List.getElem?_cons_zero, Option.some.injEq] at hj
      subst hj
      simpa [Addr.add] using hx
    | succ j => simp at hj
  have h63 : l.length + 1 ≤ maxLen := by unfold maxLen; omega
  have run := fun base (ho : w.ownsRow base 23 1 v l.length (l.map fun n : Nat => Value.int .u64 (n : Int))) (hbb : base ≤ w.heap.size) =>
    run_append_own (P := Tryd.prog) w base 51 ty 23 i0 (.int .u64 0) 1 8 Tryd.underlying51 hi hz0 hz1 hz2 rfl (by decide) v l.length _ ho a 1 1 [.int .u64 (x : Int)] rfl hnews (one_cell64 _) h63 (by omega) hbb
  obtain ⟨v', w', hr, ho, hg, _⟩ := run b hown hb
  have ho' : OwnW w' b v' (l ++ [x]) := by
    unfold OwnW
    simpa using ho
  refine ⟨v', w', hr, ho', hg, ?_⟩
  obtain ⟨hl, ⟨rfl, h0⟩ | ⟨g, cap, cur, rfl, hbg, hg', hnc, hcm, hcs, htake⟩⟩ := id hown
  · have hl0 : l = [] := List.eq_nil_of_length_eq_zero (by simpa using h0)
    subst hl0
    obtain ⟨v2, w2, hr2, ho2, _⟩ := run w.heap.size (World.ownsRow_nil _ _ _ _) (Nat.le_refl _)
    obtain ⟨rfl, rfl⟩ : v' = v2 ∧ w' = w2 := by
      have := hr.symm.trans hr2
      simpa using this
    rcases ho2.2 with ⟨rfl, h1⟩ | ⟨g, cap, cur, rfl, hbg, _⟩
    · simp at h1
    · exact .inr ⟨g, rfl, hbg⟩
  · by_cases hroom : l.length + 1 ≤ cap
    · have hr2 := run_append_room (P := Tryd.prog) w 51 ty 23 i0 Tryd.underlying51 hi g l.length cap cur hg' a 1 1 [.int .u64 (x : Int)] (by rw [hz1]; rfl) hnews (one_cell64 _) hroom (by rw [hz1, hcs]; simp; omega)
      obtain ⟨rfl, _⟩ : v' = _ ∧ w' = _ := by
        have := hr.symm.trans hr2
        simpa using this
      exact .inl rfl
    · have holds : ∀ j u, (l.map fun n : Nat => Value.int .u64 (n : Int))[j]? = some u → w.cell? ((⟨g, 0, none⟩ : Addr).add j) = some u := World.ownsRow.cells (g := g) hown rfl
      have hr2 := run_append_grow (P := Tryd.prog) w 51 ty 23 i0 (.int .u64 0) Tryd.underlying51 hi hz0 ⟨g, 0, none⟩ l.length cap (l.map fun n : Nat => Value.int .u64 (n : Int)) (by rw [hz1]; simp) holds a 1 1 [.int .u64 (x : Int)] (by rw [hz1]; rfl) hnews (by omega) (by unfold maxLen at h63; omega) (by rw [hz2]; exact growslice_fits (by omega) (by omega))
      obtain ⟨rfl, _⟩ : v' = _ ∧ w' = _ := by
        have := hr.symm.trans hr2
        simpa using this
      exact .inr ⟨w.heap.size, rfl, Nat.le_refl _⟩

/-- Two rows of the call's own. -/
def Rows2 (w : World) (b : Nat) (ve vo : Value) (E O : List Nat) : Prop := OwnW w b ve E ∧ OwnW w b vo O ∧ apart ve vo
theorem Rows2.swap {w : World} {b : Nat} {ve vo : Value} {E O : List Nat} (h : Rows2 w b ve vo E O) : Rows2 w b vo ve O E := by
  refine ⟨h.2.1, h.1, ?_⟩
  rcases h.2.2 with h | h | h
  · exact .inr (.inl h)
  · exact .inl h
  · exact .inr (.inr (Ne.symm h))
theorem Rows2.grow {w w' : World} {b : Nat} {ve vo v' : Value} {E O E' : List Nat} (h : Rows2 w b ve vo E O) (ho : OwnW w' b v' E') (hg : w.grownBy w' ve.ownBlock) (hm : movedBy w ve v') : Rows2 w' b v' vo E' O := by
  obtain ⟨h1, h2, h3⟩ := h
  have hne : vo.ownBlock = none ∨ vo.ownBlock ≠ ve.ownBlock := by
    rcases h3 with h | h | h
    · cases hv : vo.ownBlock with
      | none => exact .inl rfl
      | some k => right; rw [h]; simp
    · exact .inl h
    · exact .inr (Ne.symm h)
  refine ⟨ho, World.ownsRow.kept h2 hg hne, ?_⟩
  rcases hm with hm | ⟨k, hk, hks⟩
  · unfold apart; rw [hm]; exact h3
  · cases hv : vo.ownBlock with
    | none => exact .inr (.inl hv)
    | some j =>
      right; right
      rw [hk, hv]
      have := (World.ownsRow.lt h2 j hv).2
      intro e
      simp only [Option.some.injEq] at e
      omega
theorem Rows2.alloc {w : World} {b : Nat} {ve vo : Value} {E O : List Nat} (h : Rows2 w b ve vo E O) (o : Obj) : Rows2 (w.alloc o) b ve vo E O := ⟨World.ownsRow.alloc h.1 o, World.ownsRow.alloc h.2.1 o, h.2.2⟩
theorem Rows2.nil (w : World) (b : Nat) : Rows2 w b (.slice none 0 0) (.slice none 0 0) [] [] := ⟨World.ownsRow_nil _ _ _ _, World.ownsRow_nil _ _ _ _, .inl rfl⟩
theorem Rows2.words {w : World} {b c : Nat} {ve vo : Value} {E O : List Nat} (h : Rows2 w b ve vo E O) (hc : 1 ≤ c) (hE : E.length = c) (hO : O.length = c) :
    ∃ g1 c1 g2 c2, ve = .slice (some ⟨g1, 0, none⟩) c c1 ∧ vo = .slice (some ⟨g2, 0, none⟩) c c2 ∧ Words w g1 0 c E ∧ Words w g2 0 c O := by
  obtain ⟨g1, c1, cur1, _, rfl, _, hb1, hc1⟩ := own_post h.1 (by omega)
  obtain ⟨g2, c2, cur2, _, rfl, _, hb2, hc2⟩ := own_post h.2.1 (by omega)
  rw [hE] at hc1 ⊢
  rw [hO] at hc2 ⊢
  refine ⟨g1, c1, g2, c2, rfl, rfl, fun i hi => ?_, fun i hi => ?_⟩
  · have := hc1 i hi
    simp [World.cell?, hb1, this]
  · have := hc2 i hi
    simp [World.cell?, hb2, this]
end Go.Proofs.YtoihfmammmkloaaDoor
/-
  vints.Wide, over what is told of its callees (gencode7b.py wrote it).
-/
set_option linter.unusedVariables false
set_option linter.unusedSimpArgs false
namespace Go.Proofs.YtoihfmammmkloaaDoor
open Go.RowKit Lan

def WideJ8 (g o b z : Nat) (h : Bool) (rp rq : Nat) (re : Int) (W wa : World) (d : Nat → Bool) (vs : List Value) (wz : World) : Prop :=
  (d 0 = true → vs[0]?.getD undef = .int .i64 8) ∧ (d 1 = true → vs[1]?.getD undef = .int .i64 16) ∧ (d 2 = true → vs[2]?.getD undef = .slice (some ⟨g, 0, none⟩) 16 16) ∧ (d 3 = true → vs[3]?.getD undef = .bool h) ∧ (d 4 = true → vs[4]?.getD undef = .slice (some ⟨g, o, none⟩) 8 8) ∧ (d 5 = true → vs[5]?.getD undef = .func (.func 60) #[] #[.pointer (some ⟨b, 0, none⟩), .pointer (some ⟨(b + 1), 0, none⟩)]) ∧ (d 6 = true → vs[6]?.getD undef = .tuple #[.agg #[.int .u64 (rp : Int), .int .u64 (rq : Int)], .int .i64 re]) ∧ (d 7 = true → vs[7]?.getD undef = .agg #[.int .u64 (rp : Int), .int .u64 (rq : Int)]) ∧ (d 8 = true → vs[8]?.getD undef = .int .i64 re) ∧ (d 10 = true → vs[9]?.getD undef = .int .i64 re) ∧ (d 1 = true → d 0 = true) ∧ (d 4 = true → d 2 = true) ∧ (d 4 = true → d 3 = true) ∧ (d 6 = true → d 1 = true) ∧ (d 6 = true → d 4 = true) ∧ (d 6 = true → d 5 = true) ∧ (d 7 = true → d 6 = true) ∧ (d 8 = true → d 6 = true) ∧ (d 9 = true → d 7 = true) ∧ (d 10 = true → d 8 = true) ∧ (d 9 = true → VBlk wz z (rp, rq)) ∧ (d 9 = false → Below wa.heap.size wa wz) ∧ Below W.heap.size W wz

set_option maxHeartbeats 4000000 in
theorem vwide8_walk (s h : Bool) (a : Nat × Nat) (o : Nat) (LA : List Nat) (rp rq : Nat) (re : Int) (W : World)
    (hA : ∀ W', Below W.heap.size W W' → Calls Tryd.prog 51 #[vecV a, .int .i64 8] W' fun e W'' => AllPost W' 16 LA e W'')
    (hH : ∀ (g : Nat) (W' : World), Calls Tryd.prog 59 #[.slice (some ⟨g, 0, none⟩) 16 16, .bool h] W' fun e W'' => e = .returned (.slice (some ⟨g, o, none⟩) 8 8) ∧ W'' = W')
    (hE : ∀ (g q0 q1 : Nat) (W' : World), Below W.heap.size W W' → WBlk W' g LA → W'.cell? ⟨q0, 0, none⟩ = some (.int .i64 8) → W'.cell? ⟨q1, 0, none⟩ = some (.bool s) →
      ∀ W2, Below W'.heap.size W' W2 → Calls Tryd.prog 54 #[.int .i64 16, .slice (some ⟨g, o, none⟩) 8 8, .func (.func 60) #[] #[.pointer (some ⟨q0, 0, none⟩), .pointer (some ⟨q1, 0, none⟩)]] W2 fun e W'' => e = .returned (vecE ((rp, rq), re)) ∧ Below W2.heap.size W2 W'') :
    Calls Tryd.prog 24 #[.int .i64 8, .bool s, .bool h, vecV a] W fun e W' => e = .returned (vecE ((rp, rq), re)) ∧ Below W.heap.size W W' := by
  obtain ⟨wa, hwa⟩ : ∃ wa, ((((W.alloc (.cells #[.int .i64 8] 3)).alloc (.cells #[.bool s] 4)).alloc (.cells #[.int .u64 (a.1 : Int), .int .u64 (a.2 : Int)] 25)).alloc (.cells #[.int .u64 0, .int .u64 0] 25)) = wa := ⟨_, rfl⟩
  have B0 : Below W.heap.size W W := Below.refl _ _
  have B1 := B0.alloc B0.size (.cells #[.int .i64 8] 3)
  have B2 := B1.alloc B1.size (.cells #[.bool s] 4)
  have B3 := B2.alloc B2.size (.cells #[.int .u64 (a.1 : Int), .int .u64 (a.2 : Int)] 25)
  have B4 := B3.alloc B3.size (.cells #[.int .u64 0, .int .u64 0] 25)
  have BA : Hide (Below W.heap.size W wa) := hide (by rw [← hwa]; exact B4)
  have Cw : wa.cell? ⟨W.heap.size, 0, none⟩ = some (.int .i64 8) := by rw [← hwa]; exact cell_of (alloc_past (alloc_past (alloc_past (alloc_at (by simp)))))
  have Cs : wa.cell? ⟨W.heap.size + 1, 0, none⟩ = some (.bool s) := by rw [← hwa]; exact cell_of (alloc_past (alloc_past (alloc_at (by simp))))
  have Va : VBlk wa (W.heap.size + 2) a := by rw [← hwa]; exact alloc_past (alloc_at (by simp))
  have VZ : Hide (VBlk wa (W.heap.size + 3) (0, 0)) := hide (by rw [← hwa]; exact alloc_at (by simp))
  have HWA := hide hwa
  clear hwa B0 B1 B2 B3 B4
  have CA := hide (hA wa BA.out)
  have CH0 := hide hH
  have CE := hide hE
  have CW := hide Cw
  have CS := hide Cs
  clear hA hH hE Cs
  obtain ⟨a0, a1⟩ := a
  have ac0 := Va.c0
  have ac1 := Va.c1
  clear Va
  unfold vecE at CE ⊢
  unfold vecV at *
  simp only at *
  go_enter Tryd.func24, Tryd.ntmps24
  go_wp2_with fail
  rw [HWA.out]
  go_wp2_with fail
  refine CA.out.mono ?_
  rintro e w1 ⟨g, hg, rfl, hWa, hb⟩
  have VZ1 : Hide (VBlk w1 (W.heap.size + 3) (0, 0)) := hide (VZ.out.later hb VZ.out.lt)
  have B1 : Hide (Below W.heap.size W w1) := hide (BA.out.trans (hb.mono BA.out.size))
  have C0 : Hide (w1.cell? ⟨W.heap.size, 0, none⟩ = some (.int .i64 8)) := hide (cell_later hb CW.out (Nat.le_refl _))
  have C1 : Hide (w1.cell? ⟨W.heap.size + 1, 0, none⟩ = some (.bool s)) := hide (cell_later hb CS.out (Nat.le_refl _))
  have CE2 := hide (CE.out g W.heap.size (W.heap.size + 1) w1 B1.out hWa C0.out C1.out)
  have CH := hide (CH0.out g)
  clear hb hWa hg CA CE CH0 VZ BA HWA CW CS ac0 ac1 Cw
  go_wp2_with fail
  refine wp_region_par [29, 30, 31, 32, 33, 34, 35, 36, 37, 9] (WideJ8 g o W.heap.size (W.heap.size + 3) h rp rq re W w1) (by kernel_rfl) (by kernel_rfl) ?_ ?_ ?_
  · intro vs
    exact ⟨(fun h => by cases h), (fun h => by cases h), (fun h => by cases h), (fun h => by cases h), (fun h => by cases h), (fun h => by cases h), (fun h => by cases h), (fun h => by cases h), (fun h => by cases h), (fun h => by cases h), (fun h => by cases h), (fun h => by cases h), (fun h => by cases h), (fun h => by cases h), (fun h => by cases h), (fun h => by cases h), (fun h => by cases h), (fun h => by cases h), (fun h => by cases h), (fun h => by cases h), (fun h => by cases h), (fun _ => (Below.refl _ _).drew), B1.out.drew⟩
  · intro d vs w2 hd hl hJ
    match vs, hl with
    | [x0, x1, x2, x3, x4, x5, x6, x7, x8, x9], _ =>
    obtain ⟨j0, j1, j2, j3, j4, j5, j6, j7, j8, j10, p1_0, p4_2, p4_3, p6_1, p6_4, p6_5, p7_6, p8_6, p9_7, p10_8, jz, jw, jb⟩ := hJ
    simp only [List.getElem?_cons_zero, List.getElem?_cons_succ, Option.some.injEq, Option.getD_some] at j0 j1 j2 j3 j4 j5 j6 j7 j8 j10
    obtain rfl := j0 (hd 0 (by decide))
    obtain rfl := j1 (hd 1 (by decide))
    obtain rfl := j2 (hd 2 (by decide))
    obtain rfl := j3 (hd 3 (by decide))
    obtain rfl := j4 (hd 4 (by decide))
    obtain rfl := j5 (hd 5 (by decide))
    obtain rfl := j6 (hd 6 (by decide))
    obtain rfl := j7 (hd 7 (by decide))
    obtain rfl := j8 (hd 8 (by decide))
    obtain rfl := j10 (hd 10 (by decide))
    have KZ := hide (jz (hd 9 (by decide)))
    have KB := hide jb
    clear hd hl j0 j1 j2 j3 j4 j5 j6 j7 j8 j10 p1_0 p4_2 p4_3 p6_1 p6_4 p6_5 p7_6 p8_6 p9_7 p10_8 jz jw jb
    simp only [putL, Act.put, List.setIfInBounds_toArray, List.set_cons_succ, List.set_cons_zero]
    go_wp2
    refine bodyPost_ret (v := .tuple #[.agg #[.int .u64 (rp : Int), .int .u64 (rq : Int)], .int .i64 re]) (KZ.out.result2 (by rfl) _ rfl rfl) rfl ?_
    exact ⟨rfl, KB.out⟩
  · intro i o ho d vs w hl hJ hi hw
    match vs, hl with
    | [x0, x1, x2, x3, x4, x5, x6, x7, x8, x9], _ =>
    have hin : i < 11 := (List.getElem?_eq_some_iff.1 ho).1
    obtain ⟨j0, j1, j2, j3, j4, j5, j6, j7, j8, j10, p1_0, p4_2, p4_3, p6_1, p6_4, p6_5, p7_6, p8_6, p9_7, p10_8, jz, jw, jb⟩ := hJ
    simp only [List.getElem?_cons_zero, List.getElem?_cons_succ, Option.some.injEq, Option.getD_some] at j0 j1 j2 j3 j4 j5 j6 j7 j8 j10
    rcases (show i = 0 ∨ i = 1 ∨ i = 2 ∨ i = 3 ∨ i = 4 ∨ i = 5 ∨ i = 6 ∨ i = 7 ∨ i = 8 ∨ i = 9 ∨ i = 10 by omega) with rfl | rfl | rfl | rfl | rfl | rfl | rfl | rfl | rfl | rfl | rfl
    · simp only [List.getElem?_cons_zero, List.getElem?_cons_succ, Option.some.injEq] at ho
      subst ho
      have h9 : d 9 = false := by
        cases h : d 9 with
        | false => rfl
        | true => exact nomatch (((p1_0 (p6_1 (p7_6 (p9_7 h))))).symm.trans hi)
      have h0 := cell_later (jw h9) C0.out (Nat.le_refl _)
      simp only [putL, Act.put, List.setIfInBounds_toArray, List.set_cons_succ, List.set_cons_zero] at h0 ⊢
      go_wp2
      exact ⟨rfl, [_, x1, x2, x3, x4, x5, x6, x7, x8, x9], rfl, (by simp only [putL, Act.put, List.setIfInBounds_toArray, List.set_cons_succ, List.set_cons_zero]), (fun _ => rfl), j1, j2, j3, j4, j5, j6, j7, j8, j10, (fun _ => rfl), p4_2, p4_3, p6_1, p6_4, p6_5, p7_6, p8_6, p9_7, p10_8, jz, jw, jb⟩
    · simp only [List.getElem?_cons_zero, List.getElem?_cons_succ, Option.some.injEq] at ho
      subst ho
      have h9 : d 9 = false := by
        cases h : d 9 with
        | false => rfl
        | true => exact nomatch (((p6_1 (p7_6 (p9_7 h)))).symm.trans hi)
      obtain rfl := j0 (List.all_eq_true.1 hw 0 (by decide))
      simp only [putL, Act.put, List.setIfInBounds_toArray, List.set_cons_succ, List.set_cons_zero]
      go_wp2
      exact ⟨rfl, [_, _, x2, x3, x4, x5, x6, x7, x8, x9], rfl, (by simp only [putL, Act.put, List.setIfInBounds_toArray, List.set_cons_succ, List.set_cons_zero]), (fun _ => rfl), (fun _ => rfl), j2, j3, j4, j5, j6, j7, j8, j10, (fun _ => List.all_eq_true.1 hw 0 (by decide)), p4_2, p4_3, (fun _ => rfl), p6_4, p6_5, p7_6, p8_6, p9_7, p10_8, jz, jw, jb⟩
    · simp only [List.getElem?_cons_zero, List.getElem?_cons_succ, Option.some.injEq] at ho
      subst ho
      have h9 : d 9 = false := by
        cases h : d 9 with
        | false => rfl
        | true => exact nomatch (((p4_2 (p6_4 (p7_6 (p9_7 h))))).symm.trans hi)
      simp only [putL, Act.put, List.setIfInBounds_toArray, List.set_cons_succ, List.set_cons_zero]
      go_wp2
      exact ⟨rfl, [x0, x1, _, x3, x4, x5, x6, x7, x8, x9], rfl, (by simp only [putL, Act.put, List.setIfInBounds_toArray, List.set_cons_succ, List.set_cons_zero]), j0, j1, (fun _ => rfl), j3, j4, j5, j6, j7, j8, j10, p1_0, (fun _ => rfl), p4_3, p6_1, p6_4, p6_5, p7_6, p8_6, p9_7, p10_8, jz, jw, jb⟩
    · simp only [List.getElem?_cons_zero, List.getElem?_cons_succ, Option.some.injEq] at ho
      subst ho
      have h9 : d 9 = false := by
        cases h : d 9 with
        | false => rfl
        | true => exact nomatch (((p4_3 (p6_4 (p7_6 (p9_7 h))))).symm.trans hi)
      simp only [putL, Act.put, List.setIfInBounds_toArray, List.set_cons_succ, List.set_cons_zero]
      go_wp2
      exact ⟨rfl, [x0, x1, x2, _, x4, x5, x6, x7, x8, x9], rfl, (by simp only [putL, Act.put, List.setIfInBounds_toArray, List.set_cons_succ, List.set_cons_zero]), j0, j1, j2, (fun _ => rfl), j4, j5, j6, j7, j8, j10, p1_0, p4_2, (fun _ => rfl), p6_1, p6_4, p6_5, p7_6, p8_6, p9_7, p10_8, jz, jw, jb⟩
    · simp only [List.getElem?_cons_zero, List.getElem?_cons_succ, Option.some.injEq] at ho
      subst ho
      have h9 : d 9 = false := by
        cases h : d 9 with
        | false => rfl
        | true => exact nomatch (((p6_4 (p7_6 (p9_7 h)))).symm.trans hi)
      obtain rfl := j2 (List.all_eq_true.1 hw 2 (by decide))
      obtain rfl := j3 (List.all_eq_true.1 hw 3 (by decide))
      simp only [putL, Act.put, List.setIfInBounds_toArray, List.set_cons_succ, List.set_cons_zero]
      go_wp2_with ((with_reducible refine (CH.out _).mono ?_); rintro e w1 ⟨rfl, hww⟩; replace hww := hww.symm; subst hww)
      exact ⟨rfl, [x0, x1, _, _, _, x5, x6, x7, x8, x9], rfl, (by simp only [putL, Act.put, List.setIfInBounds_toArray, List.set_cons_succ, List.set_cons_zero]), j0, j1, (fun _ => rfl), (fun _ => rfl), (fun _ => rfl), j5, j6, j7, j8, j10, p1_0, (fun _ => List.all_eq_true.1 hw 2 (by decide)), (fun _ => List.all_eq_true.1 hw 3 (by decide)), p6_1, (fun _ => rfl), p6_5, p7_6, p8_6, p9_7, p10_8, jz, jw, jb⟩
    · simp only [List.getElem?_cons_zero, List.getElem?_cons_succ, Option.some.injEq] at ho
      subst ho
      have h9 : d 9 = false := by
        cases h : d 9 with
        | false => rfl
        | true => exact nomatch (((p6_5 (p7_6 (p9_7 h)))).symm.trans hi)
      simp only [putL, Act.put, List.setIfInBounds_toArray, List.set_cons_succ, List.set_cons_zero]
      go_wp2
      exact ⟨rfl, [x0, x1, x2, x3, x4, _, x6, x7, x8, x9], rfl, (by simp only [putL, Act.put, List.setIfInBounds_toArray, List.set_cons_succ, List.set_cons_zero]), j0, j1, j2, j3, j4, (fun _ => rfl), j6, j7, j8, j10, p1_0, p4_2, p4_3, p6_1, p6_4, (fun _ => rfl), p7_6, p8_6, p9_7, p10_8, jz, jw, jb⟩
    · simp only [List.getElem?_cons_zero, List.getElem?_cons_succ, Option.some.injEq] at ho
      subst ho
      have h9 : d 9 = false := by
        cases h : d 9 with
        | false => rfl
        | true => exact nomatch (((p7_6 (p9_7 h))).symm.trans hi)
      obtain rfl := j1 (List.all_eq_true.1 hw 1 (by decide))
      obtain rfl := j4 (List.all_eq_true.1 hw 4 (by decide))
      obtain rfl := j5 (List.all_eq_true.1 hw 5 (by decide))
      simp only [putL, Act.put, List.setIfInBounds_toArray, List.set_cons_succ, List.set_cons_zero]
      go_wp2_with ((with_reducible refine (CE2.out _ (jw h9)).mono ?_); rintro e w1 ⟨rfl, hb⟩)
      exact ⟨rfl, [x0, _, x2, x3, _, _, _, x7, x8, x9], rfl, (by simp only [putL, Act.put, List.setIfInBounds_toArray, List.set_cons_succ, List.set_cons_zero]), j0, (fun _ => rfl), j2, j3, (fun _ => rfl), (fun _ => rfl), (fun _ => rfl), j7, j8, j10, p1_0, p4_2, p4_3, (fun _ => List.all_eq_true.1 hw 1 (by decide)), (fun _ => List.all_eq_true.1 hw 4 (by decide)), (fun _ => List.all_eq_true.1 hw 5 (by decide)), (fun _ => rfl), (fun _ => rfl), p9_7, p10_8, (fun h => nomatch (h9.symm.trans h)), (fun _ => (jw h9).trans (hb.mono (jw h9).size)), (jb.trans (hb.mono jb.size))⟩
    · simp only [List.getElem?_cons_zero, List.getElem?_cons_succ, Option.some.injEq] at ho
      subst ho
      have h9 : d 9 = false := by
        cases h : d 9 with
        | false => rfl
        | true => exact nomatch (((p9_7 h)).symm.trans hi)
      obtain rfl := j6 (List.all_eq_true.1 hw 6 (by decide))
      simp only [putL, Act.put, List.setIfInBounds_toArray, List.set_cons_succ, List.set_cons_zero]
      go_wp2
      exact ⟨rfl, [x0, x1, x2, x3, x4, x5, _, _, x8, x9], rfl, (by simp only [putL, Act.put, List.setIfInBounds_toArray, List.set_cons_succ, List.set_cons_zero]), j0, j1, j2, j3, j4, j5, (fun _ => rfl), (fun _ => rfl), j8, j10, p1_0, p4_2, p4_3, p6_1, p6_4, p6_5, (fun _ => List.all_eq_true.1 hw 6 (by decide)), p8_6, (fun _ => rfl), p10_8, jz, jw, jb⟩
    · simp only [List.getElem?_cons_zero, List.getElem?_cons_succ, Option.some.injEq] at ho
      subst ho
      obtain rfl := j6 (List.all_eq_true.1 hw 6 (by decide))
      simp only [putL, Act.put, List.setIfInBounds_toArray, List.set_cons_succ, List.set_cons_zero]
      go_wp2
      exact ⟨rfl, [x0, x1, x2, x3, x4, x5, _, x7, _, x9], rfl, (by simp only [putL, Act.put, List.setIfInBounds_toArray, List.set_cons_succ, List.set_cons_zero]), j0, j1, j2, j3, j4, j5, (fun _ => rfl), j7, (fun _ => rfl), j10, p1_0, p4_2, p4_3, p6_1, p6_4, p6_5, p7_6, (fun _ => List.all_eq_true.1 hw 6 (by decide)), p9_7, (fun _ => rfl), jz, jw, jb⟩
    · simp only [List.getElem?_cons_zero, List.getElem?_cons_succ, Option.some.injEq] at ho
      subst ho
      obtain rfl := j7 (List.all_eq_true.1 hw 7 (by decide))
      have VZw := VZ1.out.later (jw hi) VZ1.out.lt
      have k0 := VZw.c0
      have k1 := VZw.c1
      have f0 := VZw.frozen 0
      have f1 := VZw.frozen 1
      simp only [putL, Act.put, List.setIfInBounds_toArray, List.set_cons_succ, List.set_cons_zero]
      go_wp2
      exact ⟨rfl, [x0, x1, x2, x3, x4, x5, x6, _, x8, x9], rfl, (by simp only [putL, Act.put, List.setIfInBounds_toArray, List.set_cons_succ, List.set_cons_zero]), j0, j1, j2, j3, j4, j5, j6, (fun _ => rfl), j8, j10, p1_0, p4_2, p4_3, p6_1, p6_4, p6_5, p7_6, p8_6, (fun _ => List.all_eq_true.1 hw 7 (by decide)), p10_8, (fun _ => VZw.set2 rp rq), (fun h => nomatch h), ((jb.setCell (by simp; try omega) _).setCell (by simp; try omega) _)⟩
    · simp only [List.getElem?_cons_zero, List.getElem?_cons_succ, Option.some.injEq] at ho
      subst ho
      obtain rfl := j8 (List.all_eq_true.1 hw 8 (by decide))
      simp only [putL, Act.put, List.setIfInBounds_toArray, List.set_cons_succ, List.set_cons_zero]
      go_wp2
      exact ⟨rfl, [x0, x1, x2, x3, x4, x5, x6, x7, _, _], rfl, (by simp only [putL, Act.put, List.setIfInBounds_toArray, List.set_cons_succ, List.set_cons_zero]), j0, j1, j2, j3, j4, j5, j6, j7, (fun _ => rfl), (fun _ => rfl), p1_0, p4_2, p4_3, p6_1, p6_4, p6_5, p7_6, p8_6, p9_7, (fun _ => List.all_eq_true.1 hw 8 (by decide)), jz, jw, jb⟩

def WideJ16 (g o b z : Nat) (h : Bool) (rp rq : Nat) (re : Int) (W wa : World) (d : Nat → Bool) (vs : List Value) (wz : World) : Prop :=
  (d 0 = true → vs[0]?.getD undef = .int .i64 16) ∧ (d 1 = true → vs[1]?.getD undef = .int .i64 32) ∧ (d 2 = true → vs[2]?.getD undef = .slice (some ⟨g, 0, none⟩) 8 8) ∧ (d 3 = true → vs[3]?.getD undef = .bool h) ∧ (d 4 = true → vs[4]?.getD undef = .slice (some ⟨g, o, none⟩) 4 4) ∧ (d 5 = true → vs[5]?.getD undef = .func (.func 60) #[] #[.pointer (some ⟨b, 0, none⟩), .pointer (some ⟨(b + 1), 0, none⟩)]) ∧ (d 6 = true → vs[6]?.getD undef = .tuple #[.agg #[.int .u64 (rp : Int), .int .u64 (rq : Int)], .int .i64 re]) ∧ (d 7 = true → vs[7]?.getD undef = .agg #[.int .u64 (rp : Int), .int .u64 (rq : Int)]) ∧ (d 8 = true → vs[8]?.getD undef = .int .i64 re) ∧ (d 10 = true → vs[9]?.getD undef = .int .i64 re) ∧ (d 1 = true → d 0 = true) ∧ (d 4 = true → d 2 = true) ∧ (d 4 = true → d 3 = true) ∧ (d 6 = true → d 1 = true) ∧ (d 6 = true → d 4 = true) ∧ (d 6 = true → d 5 = true) ∧ (d 7 = true → d 6 = true) ∧ (d 8 = true → d 6 = true) ∧ (d 9 = true → d 7 = true) ∧ (d 10 = true → d 8 = true) ∧ (d 9 = true → VBlk wz z (rp, rq)) ∧ (d 9 = false → Below wa.heap.size wa wz) ∧ Below W.heap.size W wz

set_option maxHeartbeats 4000000 in
theorem vwide16_walk (s h : Bool) (a : Nat × Nat) (o : Nat) (LA : List Nat) (rp rq : Nat) (re : Int) (W : World)
    (hA : ∀ W', Below W.heap.size W W' → Calls Tryd.prog 51 #[vecV a, .int .i64 16] W' fun e W'' => AllPost W' 8 LA e W'')
    (hH : ∀ (g : Nat) (W' : World), Calls Tryd.prog 59 #[.slice (some ⟨g, 0, none⟩) 8 8, .bool h] W' fun e W'' => e = .returned (.slice (some ⟨g, o, none⟩) 4 4) ∧ W'' = W')
    (hE : ∀ (g q0 q1 : Nat) (W' : World), Below W.heap.size W W' → WBlk W' g LA → W'.cell? ⟨q0, 0, none⟩ = some (.int .i64 16) → W'.cell? ⟨q1, 0, none⟩ = some (.bool s) →
      ∀ W2, Below W'.heap.size W' W2 → Calls Tryd.prog 54 #[.int .i64 32, .slice (some ⟨g, o, none⟩) 4 4, .func (.func 60) #[] #[.pointer (some ⟨q0, 0, none⟩), .pointer (some ⟨q1, 0, none⟩)]] W2 fun e W'' => e = .returned (vecE ((rp, rq), re)) ∧ Below W2.heap.size W2 W'') :
    Calls Tryd.prog 24 #[.int .i64 16, .bool s, .bool h, vecV a] W fun e W' => e = .returned (vecE ((rp, rq), re)) ∧ Below W.heap.size W W' := by
  obtain ⟨wa, hwa⟩ : ∃ wa, ((((W.alloc (.cells #[.int .i64 16] 3)).alloc (.cells #[.bool s] 4)).alloc (.cells #[.int .u64 (a.1 : Int), .int .u64 (a.2 : Int)] 25)).alloc (.cells #[.int .u64 0, .int .u64 0] 25)) = wa := ⟨_, rfl⟩
  have B0 : Below W.heap.size W W := Below.refl _ _
  have B1 := B0.alloc B0.size (.cells #[.int .i64 16] 3)
  have B2 := B1.alloc B1.size (.cells #[.bool s] 4)
  have B3 := B2.alloc B2.size (.cells #[.int .u64 (a.1 : Int), .int .u64 (a.2 : Int)] 25)
  have B4 := B3.alloc B3.size (.cells #[.int .u64 0, .int .u64 0] 25)
  have BA : Hide (Below W.heap.size W wa) := hide (by rw [← hwa]; exact B4)
  have Cw : wa.cell? ⟨W.heap.size, 0, none⟩ = some (.int .i64 16) := by rw [← hwa]; exact cell_of (alloc_past (alloc_past (alloc_past (alloc_at (by simp)))))
  have Cs : wa.cell? ⟨W.heap.size + 1, 0, none⟩ = some (.bool s) := by rw [← hwa]; exact cell_of (alloc_past (alloc_past (alloc_at (by simp))))
  have Va : VBlk wa (W.heap.size + 2) a := by rw [← hwa]; exact alloc_past (alloc_at (by simp))
  have VZ : Hide (VBlk wa (W.heap.size + 3) (0, 0)) := hide (by rw [← hwa]; exact alloc_at (by simp))
  have HWA := hide hwa
  clear hwa B0 B1 B2 B3 B4
  have CA := hide (hA wa BA.out)
  have CH0 := hide hH
  have CE := hide hE
  have CW := hide Cw
  have CS := hide Cs
  clear hA hH hE Cs
  obtain ⟨a0, a1⟩ := a
  have ac0 := Va.c0
  have ac1 := Va.c1
  clear Va
  unfold vecE at CE ⊢
  unfold vecV at *
  simp only at *
  go_enter Tryd.func24, Tryd.ntmps24
  go_wp2_with fail
  rw [HWA.out]
  go_wp2_with fail
  refine CA.out.mono ?_
  rintro e w1 ⟨g, hg, rfl, hWa, hb⟩
  have VZ1 : Hide (VBlk w1 (W.heap.size + 3) (0, 0)) := hide (VZ.out.later hb VZ.out.lt)
  have B1 : Hide (Below W.heap.size W w1) := hide (BA.out.trans (hb.mono BA.out.size))
  have C0 : Hide (w1.cell? ⟨W.heap.size, 0, none⟩ = some (.int .i64 16)) := hide (cell_later hb CW.out (Nat.le_refl _))
  have C1 : Hide (w1.cell? ⟨W.heap.size + 1, 0, none⟩ = some (.bool s)) := hide (cell_later hb CS.out (Nat.le_refl _))
  have CE2 := hide (CE.out g W.heap.size (W.heap.size + 1) w1 B1.out hWa C0.out C1.out)
  have CH := hide (CH0.out g)
  clear hb hWa hg CA CE CH0 VZ BA HWA CW CS ac0 ac1 Cw
  go_wp2_with fail
  refine wp_region_par [29, 30, 31, 32, 33, 34, 35, 36, 37, 9] (WideJ16 g o W.heap.size (W.heap.size + 3) h rp rq re W w1) (by kernel_rfl) (by kernel_rfl) ?_ ?_ ?_
  · intro vs
    exact ⟨(fun h => by cases h), (fun h => by cases h), (fun h => by cases h), (fun h => by cases h), (fun h => by cases h), (fun h => by cases h), (fun h => by cases h), (fun h => by cases h), (fun h => by cases h), (fun h => by cases h), (fun h => by cases h), (fun h => by cases h), (fun h => by cases h), (fun h => by cases h), (fun h => by cases h), (fun h => by cases h), (fun h => by cases h), (fun h => by cases h), (fun h => by cases h), (fun h => by cases h), (fun h => by cases h), (fun _ => (Below.refl _ _).drew), B1.out.drew⟩
  · intro d vs w2 hd hl hJ
    match vs, hl with
    | [x0, x1, x2, x3, x4, x5, x6, x7, x8, x9], _ =>
    obtain ⟨j0, j1, j2, j3, j4, j5, j6, j7, j8, j10, p1_0, p4_2, p4_3, p6_1, p6_4, p6_5, p7_6, p8_6, p9_7, p10_8, jz, jw, jb⟩ := hJ
    simp only [List.getElem?_cons_zero, List.getElem?_cons_succ, Option.some.injEq, Option.getD_some] at j0 j1 j2 j3 j4 j5 j6 j7 j8 j10
    obtain rfl := j0 (hd 0 (by decide))
    obtain rfl := j1 (hd 1 (by decide))
    obtain rfl := j2 (hd 2 (by decide))
    obtain rfl := j3 (hd 3 (by decide))
    obtain rfl := j4 (hd 4 (by decide))
    obtain rfl := j5 (hd 5 (by decide))
    obtain rfl := j6 (hd 6 (by decide))
    obtain rfl := j7 (hd 7 (by decide))
    obtain rfl := j8 (hd 8 (by decide))
    obtain rfl := j10 (hd 10 (by decide))
    have KZ := hide (jz (hd 9 (by decide)))
    have KB := hide jb
    clear hd hl j0 j1 j2 j3 j4 j5 j6 j7 j8 j10 p1_0 p4_2 p4_3 p6_1 p6_4 p6_5 p7_6 p8_6 p9_7 p10_8 jz jw jb
    simp only [putL, Act.put, List.setIfInBounds_toArray, List.set_cons_succ, List.set_cons_zero]
    go_wp2
    refine bodyPost_ret (v := .tuple #[.agg #[.int .u64 (rp : Int), .int .u64 (rq : Int)], .int .i64 re]) (KZ.out.result2 (by rfl) _ rfl rfl) rfl ?_
    exact ⟨rfl, KB.out⟩
  · intro i o ho d vs w hl hJ hi hw
    match vs, hl with
    | [x0, x1, x2, x3, x4, x5, x6, x7, x8, x9], _ =>
    have hin : i < 11 := (List.getElem?_eq_some_iff.1 ho).1
    obtain ⟨j0, j1, j2, j3, j4, j5, j6, j7, j8, j10, p1_0, p4_2, p4_3, p6_1, p6_4, p6_5, p7_6, p8_6, p9_7, p10_8, jz, jw, jb⟩ := hJ
    simp only [List.getElem?_cons_zero, List.getElem?_cons_succ, Option.some.injEq, Option.getD_some] at j0 j1 j2 j3 j4 j5 j6 j7 j8 j10
    rcases (show i = 0 ∨ i = 1 ∨ i = 2 ∨ i = 3 ∨ i = 4 ∨ i = 5 ∨ i = 6 ∨ i = 7 ∨ i = 8 ∨ i = 9 ∨ i = 10 by omega) with rfl | rfl | rfl | rfl | rfl | rfl | rfl | rfl | rfl | rfl | rfl
    · simp only [List.getElem?_cons_zero, List.getElem?_cons_succ, Option.some.injEq] at ho
      subst ho
      have h9 : d 9 = false := by
        cases h : d 9 with
        | false => rfl
        | true => exact nomatch (((p1_0 (p6_1 (p7_6 (p9_7 h))))).symm.trans hi)
      have h0 := cell_later (jw h9) C0.out (Nat.le_refl _)
      simp only [putL, Act.put, List.setIfInBounds_toArray, List.set_cons_succ, List.set_cons_zero] at h0 ⊢
      go_wp2
      exact ⟨rfl, [_, x1, x2, x3, x4, x5, x6, x7, x8, x9], rfl, (by simp only [putL, Act.put, List.setIfInBounds_toArray, List.set_cons_succ, List.set_cons_zero]), (fun _ => rfl), j1, j2, j3, j4, j5, j6, j7, j8, j10, (fun _ => rfl), p4_2, p4_3, p6_1, p6_4, p6_5, p7_6, p8_6, p9_7, p10_8, jz, jw, jb⟩
    · simp only [List.getElem?_cons_zero, List.getElem?_cons_succ, Option.some.injEq] at ho
      subst ho
      have h9 : d 9 = false := by
        cases h : d 9 with
        | false => rfl
        | true => exact nomatch (((p6_1 (p7_6 (p9_7 h)))).symm.trans hi)
      obtain rfl := j0 (List.all_eq_true.1 hw 0 (by decide))
      simp only [putL, Act.put, List.setIfInBounds_toArray, List.set_cons_succ, List.set_cons_zero]
      go_wp2
      exact ⟨rfl, [_, _, x2, x3, x4, x5, x6, x7, x8, x9], rfl, (by simp only [putL, Act.put, List.setIfInBounds_toArray, List.set_cons_succ, List.set_cons_zero]), (fun _ => rfl), (fun _ => rfl), j2, j3, j4, j5, j6, j7, j8, j10, (fun _ => List.all_eq_true.1 hw 0 (by decide)), p4_2, p4_3, (fun _ => rfl), p6_4, p6_5, p7_6, p8_6, p9_7, p10_8, jz, jw, jb⟩
    · simp only [List.getElem?_cons_zero, List.getElem?_cons_succ, Option.some.injEq] at ho
      subst ho
      have h9 : d 9 = false := by
        cases h : d 9 with
        | false => rfl
        | true => exact nomatch (((p4_2 (p6_4 (p7_6 (p9_7 h))))).symm.trans hi)
      simp only [putL, Act.put, List.setIfInBounds_toArray, List.set_cons_succ, List.set_cons_zero]
      go_wp2
      exact ⟨rfl, [x0, x1, _, x3, x4, x5, x6, x7, x8, x9], rfl, (by simp only [putL, Act.put, List.setIfInBounds_toArray, List.set_cons_succ, List.set_cons_zero]), j0, j1, (fun _ => rfl), j3, j4, j5, j6, j7, j8, j10, p1_0, (fun _ => rfl), p4_3, p6_1, p6_4, p6_5, p7_6, p8_6, p9_7, p10_8, jz, jw, jb⟩
    · simp only [List.getElem?_cons_zero, List.getElem?_cons_succ, Option.some.injEq] at ho
      subst ho
      have h9 : d 9 = false := by
        cases h : d 9 with
        | false => rfl
        | true => exact nomatch (((p4_3 (p6_4 (p7_6 (p9_7 h))))).symm.trans hi)
      simp only [putL, Act.put, List.setIfInBounds_toArray, List.set_cons_succ, List.set_cons_zero]
      go_wp2
      exact ⟨rfl, [x0, x1, x2, _, x4, x5, x6, x7, x8, x9], rfl, (by simp only [putL, Act.put, List.setIfInBounds_toArray, List.set_cons_succ, List.set_cons_zero]), j0, j1, j2, (fun _ => rfl), j4, j5, j6, j7, j8, j10, p1_0, p4_2, (fun _ => rfl), p6_1, p6_4, p6_5, p7_6, p8_6, p9_7, p10_8, jz, jw, jb⟩
    · simp only [List.getElem?_cons_zero, List.getElem?_cons_succ, Option.some.injEq] at ho
      subst ho
      have h9 : d 9 = false := by
        cases h : d 9 with
        | false => rfl
        | true => exact nomatch (((p6_4 (p7_6 (p9_7 h)))).symm.trans hi)
      obtain rfl := j2 (List.all_eq_true.1 hw 2 (by decide))
      obtain rfl := j3 (List.all_eq_true.1 hw 3 (by decide))
      simp only [putL, Act.put, List.setIfInBounds_toArray, List.set_cons_succ, List.set_cons_zero]
      go_wp2_with ((with_reducible refine (CH.out _).mono ?_); rintro e w1 ⟨rfl, hww⟩; replace hww := hww.symm; subst hww)
      exact ⟨rfl, [x0, x1, _, _, _, x5, x6, x7, x8, x9], rfl, (by simp only [putL, Act.put, List.setIfInBounds_toArray, List.set_cons_succ, List.set_cons_zero]), j0, j1, (fun _ => rfl), (fun _ => rfl), (fun _ => rfl), j5, j6, j7, j8, j10, p1_0, (fun _ => List.all_eq_true.1 hw 2 (by decide)), (fun _ => List.all_eq_true.1 hw 3 (by decide)), p6_1, (fun _ => rfl), p6_5, p7_6, p8_6, p9_7, p10_8, jz, jw, jb⟩
    · simp only [List.getElem?_cons_zero, List.getElem?_cons_succ, Option.some.injEq] at ho
      subst ho
      have h9 : d 9 = false := by
        cases h : d 9 with
        | false => rfl
        | true => exact nomatch (((p6_5 (p7_6 (p9_7 h)))).symm.trans hi)
      simp only [putL, Act.put, List.setIfInBounds_toArray, List.set_cons_succ, List.set_cons_zero]
      go_wp2
      exact ⟨rfl, [x0, x1, x2, x3, x4, _, x6, x7, x8, x9], rfl, (by simp only [putL, Act.put, List.setIfInBounds_toArray, List.set_cons_succ, List.set_cons_zero]), j0, j1, j2, j3, j4, (fun _ => rfl), j6, j7, j8, j10, p1_0, p4_2, p4_3, p6_1, p6_4, (fun _ => rfl), p7_6, p8_6, p9_7, p10_8, jz, jw, jb⟩
    · simp only [List.getElem?_cons_zero, List.getElem?_cons_succ, Option.some.injEq] at ho
      subst ho
      have h9 : d 9 = false := by
        cases h : d 9 with
        | false => rfl
        | true => exact nomatch (((p7_6 (p9_7 h))).symm.trans hi)
      obtain rfl := j1 (List.all_eq_true.1 hw 1 (by decide))
      obtain rfl := j4 (List.all_eq_true.1 hw 4 (by decide))
      obtain rfl := j5 (List.all_eq_true.1 hw 5 (by decide))
      simp only [putL, Act.put, List.setIfInBounds_toArray, List.set_cons_succ, List.set_cons_zero]
      go_wp2_with ((with_reducible refine (CE2.out _ (jw h9)).mono ?_); rintro e w1 ⟨rfl, hb⟩)
      exact ⟨rfl, [x0, _, x2, x3, _, _, _, x7, x8, x9], rfl, (by simp only [putL, Act.put, List.setIfInBounds_toArray, List.set_cons_succ, List.set_cons_zero]), j0, (fun _ => rfl), j2, j3, (fun _ => rfl), (fun _ => rfl), (fun _ => rfl), j7, j8, j10, p1_0, p4_2, p4_3, (fun _ => List.all_eq_true.1 hw 1 (by decide)), (fun _ => List.all_eq_true.1 hw 4 (by decide)), (fun _ => List.all_eq_true.1 hw 5 (by decide)), (fun _ => rfl), (fun _ => rfl), p9_7, p10_8, (fun h => nomatch (h9.symm.trans h)), (fun _ => (jw h9).trans (hb.mono (jw h9).size)), (jb.trans (hb.mono jb.size))⟩
    · simp only [List.getElem?_cons_zero, List.getElem?_cons_succ, Option.some.injEq] at ho
      subst ho
      have h9 : d 9 = false := by
        cases h : d 9 with
        | false => rfl
        | true => exact nomatch (((p9_7 h)).symm.trans hi)
      obtain rfl := j6 (List.all_eq_true.1 hw 6 (by decide))
      simp only [putL, Act.put, List.setIfInBounds_toArray, List.set_cons_succ, List.set_cons_zero]
      go_wp2
      exact ⟨rfl, [x0, x1, x2, x3, x4, x5, _, _, x8, x9], rfl, (by simp only [putL, Act.put, List.setIfInBounds_toArray, List.set_cons_succ, List.set_cons_zero]), j0, j1, j2, j3, j4, j5, (fun _ => rfl), (fun _ => rfl), j8, j10, p1_0, p4_2, p4_3, p6_1, p6_4, p6_5, (fun _ => List.all_eq_true.1 hw 6 (by decide)), p8_6, (fun _ => rfl), p10_8, jz, jw, jb⟩
    · simp only [List.getElem?_cons_zero, List.getElem?_cons_succ, Option.some.injEq] at ho
      subst ho
      obtain rfl := j6 (List.all_eq_true.1 hw 6 (by decide))
      simp only [putL, Act.put, List.setIfInBounds_toArray, List.set_cons_succ, List.set_cons_zero]
      go_wp2
      exact ⟨rfl, [x0, x1, x2, x3, x4, x5, _, x7, _, x9], rfl, (by simp only [putL, Act.put, List.setIfInBounds_toArray, List.set_cons_succ, List.set_cons_zero]), j0, j1, j2, j3, j4, j5, (fun _ => rfl), j7, (fun _ => rfl), j10, p1_0, p4_2, p4_3, p6_1, p6_4, p6_5, p7_6, (fun _ => List.all_eq_true.1 hw 6 (by decide)), p9_7, (fun _ => rfl), jz, jw, jb⟩
    · simp only [List.getElem?_cons_zero, List.getElem?_cons_succ, Option.some.injEq] at ho
      subst ho
      obtain rfl := j7 (List.all_eq_true.1 hw 7 (by decide))
      have VZw := VZ1.out.later (jw hi) VZ1.out.lt
      have k0 := VZw.c0
      have k1 := VZw.c1
      have f0 := VZw.frozen 0
      have f1 := VZw.frozen 1
      simp only [putL, Act.put, List.setIfInBounds_toArray, List.set_cons_succ, List.set_cons_zero]
      go_wp2
      exact ⟨rfl, [x0, x1, x2, x3, x4, x5, x6, _, x8, x9], rfl, (by simp only [putL, Act.put, List.setIfInBounds_toArray, List.set_cons_succ, List.set_cons_zero]), j0, j1, j2, j3, j4, j5, j6, (fun _ => rfl), j8, j10, p1_0, p4_2, p4_3, p6_1, p6_4, p6_5, p7_6, p8_6, (fun _ => List.all_eq_true.1 hw 7 (by decide)), p10_8, (fun _ => VZw.set2 rp rq), (fun h => nomatch h), ((jb.setCell (by simp; try omega) _).setCell (by simp; try omega) _)⟩
    · simp only [List.getElem?_cons_zero, List.getElem?_cons_succ, Option.some.injEq] at ho
      subst ho
      obtain rfl := j8 (List.all_eq_true.1 hw 8 (by decide))
      simp only [putL, Act.put, List.setIfInBounds_toArray, List.set_cons_succ, List.set_cons_zero]
      go_wp2
      exact ⟨rfl, [x0, x1, x2, x3, x4, x5, x6, x7, _, _], rfl, (by simp only [putL, Act.put, List.setIfInBounds_toArray, List.set_cons_succ, List.set_cons_zero]), j0, j1, j2, j3, j4, j5, j6, j7, (fun _ => rfl), (fun _ => rfl), p1_0, p4_2, p4_3, p6_1, p6_4, p6_5, p7_6, p8_6, p9_7, (fun _ => List.all_eq_true.1 hw 8 (by decide)), jz, jw, jb⟩

def WideJ32 (g o b z : Nat) (h : Bool) (rp rq : Nat) (re : Int) (W wa : World) (d : Nat → Bool) (vs : List Value) (wz : World) : Prop :=
  (d 0 = true → vs[0]?.getD undef = .int .i64 32) ∧ (d 1 = true → vs[1]?.getD undef = .int .i64 64) ∧ (d 2 = true → vs[2]?.getD undef = .slice (some ⟨g, 0, none⟩) 4 4) ∧ (d 3 = true → vs[3]?.getD undef = .bool h) ∧ (d 4 = true → vs[4]?.getD undef = .slice (some ⟨g, o, none⟩) 2 2) ∧ (d 5 = true → vs[5]?.getD undef = .func (.func 60) #[] #[.pointer (some ⟨b, 0, none⟩), .pointer (some ⟨(b + 1), 0, none⟩)]) ∧ (d 6 = true → vs[6]?.getD undef = .tuple #[.agg #[.int .u64 (rp : Int), .int .u64 (rq : Int)], .int .i64 re]) ∧ (d 7 = true → vs[7]?.getD undef = .agg #[.int .u64 (rp : Int), .int .u64 (rq : Int)]) ∧ (d 8 = true → vs[8]?.getD undef = .int .i64 re) ∧ (d 10 = true → vs[9]?.getD undef = .int .i64 re) ∧ (d 1 = true → d 0 = true) ∧ (d 4 = true → d 2 = true) ∧ (d 4 = true → d 3 = true) ∧ (d 6 = true → d 1 = true) ∧ (d 6 = true → d 4 = true) ∧ (d 6 = true → d 5 = true) ∧ (d 7 = true → d 6 = true) ∧ (d 8 = true → d 6 = true) ∧ (d 9 = true → d 7 = true) ∧ (d 10 = true → d 8 = true) ∧ (d 9 = true → VBlk wz z (rp, rq)) ∧ (d 9 = false → Below wa.heap.size wa wz) ∧ Below W.heap.size W wz

set_option maxHeartbeats 4000000 in
theorem vwide32_walk (s h : Bool) (a : Nat × Nat) (o : Nat) (LA : List Nat) (rp rq : Nat) (re : Int) (W : World)
    (hA : ∀ W', Below W.heap.size W W' → Calls Tryd.prog 51 #[vecV a, .int .i64 32] W' fun e W'' => AllPost W' 4 LA e W'')
    (hH : ∀ (g : Nat) (W' : World), Calls Tryd.prog 59 #[.slice (some ⟨g, 0, none⟩) 4 4, .bool h] W' fun e W'' => e = .returned (.slice (some ⟨g, o, none⟩) 2 2) ∧ W'' = W')
    (hE : ∀ (g q0 q1 : Nat) (W' : World), Below W.heap.size W W' → WBlk W' g LA → W'.cell? ⟨q0, 0, none⟩ = some (.int .i64 32) → W'.cell? ⟨q1, 0, none⟩ = some (.bool s) →
      ∀ W2, Below W'.heap.size W' W2 → Calls Tryd.prog 54 #[.int .i64 64, .slice (some ⟨g, o, none⟩) 2 2, .func (.func 60) #[] #[.pointer (some ⟨q0, 0, none⟩), .pointer (some ⟨q1, 0, none⟩)]] W2 fun e W'' => e = .returned (vecE ((rp, rq), re)) ∧ Below W2.heap.size W2 W'') :
    Calls Tryd.prog 24 #[.int .i64 32, .bool s, .bool h, vecV a] W fun e W' => e = .returned (vecE ((rp, rq), re)) ∧ Below W.heap.size W W' := by
  obtain ⟨wa, hwa⟩ : ∃ wa, ((((W.alloc (.cells #[.int .i64 32] 3)).alloc (.cells #[.bool s] 4)).alloc (.cells #[.int .u64 (a.1 : Int), .int .u64 (a.2 : Int)] 25)).alloc (.cells #[.int .u64 0, .int .u64 0] 25)) = wa := ⟨_, rfl⟩
  have B0 : Below W.heap.size W W := Below.refl _ _
  have B1 := B0.alloc B0.size (.cells #[.int .i64 32] 3)
  have B2 := B1.alloc B1.size (.cells #[.bool s] 4)
  have B3 := B2.alloc B2.size (.cells #[.int .u64 (a.1 : Int), .int .u64 (a.2 : Int)] 25)
  have B4 := B3.alloc B3.size (.cells #[.int .u64 0, .int .u64 0] 25)
  have BA : Hide (Below W.heap.size W wa) := hide (by rw [← hwa]; exact B4)
  have Cw : wa.cell? ⟨W.heap.size, 0, none⟩ = some (.int .i64 32) := by rw [← hwa]; exact cell_of (alloc_past (alloc_past (alloc_past (alloc_at (by simp)))))
  have Cs : wa.cell? ⟨W.heap.size + 1, 0, none⟩ = some (.bool s) := by rw [← hwa]; exact cell_of (alloc_past (alloc_past (alloc_at (by simp))))
  have Va : VBlk wa (W.heap.size + 2) a := by rw [← hwa]; exact alloc_past (alloc_at (by simp))
  have VZ : Hide (VBlk wa (W.heap.size + 3) (0, 0)) := hide (by rw [← hwa]; exact alloc_at (by simp))
  have HWA := hide hwa
  clear hwa B0 B1 B2 B3 B4
  have CA := hide (hA wa BA.out)
  have CH0 := hide hH
  have CE := hide hE
  have CW := hide Cw
  have CS := hide Cs
  clear hA hH hE Cs
  obtain ⟨a0, a1⟩ := a
  have ac0 := Va.c0
  have ac1 := Va.c1
  clear Va
  unfold vecE at CE ⊢
  unfold vecV at *
  simp only at *
  go_enter Tryd.func24, Tryd.ntmps24
  go_wp2_with fail
  rw [HWA.out]
  go_wp2_with fail
  refine CA.out.mono ?_
  rintro e w1 ⟨g, hg, rfl, hWa, hb⟩
  have VZ1 : Hide (VBlk w1 (W.heap.size + 3) (0, 0)) := hide (VZ.out.later hb VZ.out.lt)
  have B1 : Hide (Below W.heap.size W w1) := hide (BA.out.trans (hb.mono BA.out.size))
  have C0 : Hide (w1.cell? ⟨W.heap.size, 0, none⟩ = some (.int .i64 32)) := hide (cell_later hb CW.out (Nat.le_refl _))
  have C1 : Hide (w1.cell? ⟨W.heap.size + 1, 0, none⟩ = some (.bool s)) := hide (cell_later hb CS.out (Nat.le_refl _))
  have CE2 := hide (CE.out g W.heap.size (W.heap.size + 1) w1 B1.out hWa C0.out C1.out)
  have CH := hide (CH0.out g)
  clear hb hWa hg CA CE CH0 VZ BA HWA CW CS ac0 ac1 Cw
  go_wp2_with fail
  refine wp_region_par [29, 30, 31, 32, 33, 34, 35, 36, 37, 9] (WideJ32 g o W.heap.size (W.heap.size + 3) h rp rq re W w1) (by kernel_rfl) (by kernel_rfl) ?_ ?_ ?_
  · intro vs
    exact ⟨(fun h => by cases h), (fun h => by cases h), (fun h => by cases h), (fun h => by cases h), (fun h => by cases h), (fun h => by cases h), (fun h => by cases h), (fun h => by cases h), (fun h => by cases h), (fun h => by cases h), (fun h => by cases h), (fun h => by cases h), (fun h => by cases h), (fun h => by cases h), (fun h => by cases h), (fun h => by cases h), (fun h => by cases h), (fun h => by cases h), (fun h => by cases h), (fun h => by cases h), (fun h => by cases h), (fun _ => (Below.refl _ _).drew), B1.out.drew⟩
  · intro d vs w2 hd hl hJ
    match vs, hl with
    | [x0, x1, x2, x3, x4, x5, x6, x7, x8, x9], _ =>
    obtain ⟨j0, j1, j2, j3, j4, j5, j6, j7, j8, j10, p1_0, p4_2, p4_3, p6_1, p6_4, p6_5, p7_6, p8_6, p9_7, p10_8, jz, jw, jb⟩ := hJ
    simp only [List.getElem?_cons_zero, List.getElem?_cons_succ, Option.some.injEq, Option.getD_some] at j0 j1 j2 j3 j4 j5 j6 j7 j8 j10
    obtain rfl := j0 (hd 0 (by decide))
    obtain rfl := j1 (hd 1 (by decide))
    obtain rfl := j2 (hd 2 (by decide))
    obtain rfl := j3 (hd 3 (by decide))
    obtain rfl := j4 (hd 4 (by decide))
    obtain rfl := j5 (hd 5 (by decide))
    obtain rfl := j6 (hd 6 (by decide))
    obtain rfl := j7 (hd 7 (by decide))
    obtain rfl := j8 (hd 8 (by decide))
    obtain rfl := j10 (hd 10 (by decide))
    have KZ := hide (jz (hd 9 (by decide)))
    have KB := hide jb
    clear hd hl j0 j1 j2 j3 j4 j5 j6 j7 j8 j10 p1_0 p4_2 p4_3 p6_1 p6_4 p6_5 p7_6 p8_6 p9_7 p10_8 jz jw jb
    simp only [putL, Act.put, List.setIfInBounds_toArray, List.set_cons_succ, List.set_cons_zero]
    go_wp2
    refine bodyPost_ret (v := .tuple #[.agg #[.int .u64 (rp : Int), .int .u64 (rq : Int)], .int .i64 re]) (KZ.out.result2 (by rfl) _ rfl rfl) rfl ?_
    exact ⟨rfl, KB.out⟩
  · intro i o ho d vs w hl hJ hi hw
    match vs, hl with
    | [x0, x1, x2, x3, x4, x5, x6, x7, x8, x9], _ =>
    have hin : i < 11 := (List.getElem?_eq_some_iff.1 ho).1
    obtain ⟨j0, j1, j2, j3, j4, j5, j6, j7, j8, j10, p1_0, p4_2, p4_3, p6_1, p6_4, p6_5, p7_6, p8_6, p9_7, p10_8, jz, jw, jb⟩ := hJ
    simp only [List.getElem?_cons_zero, List.getElem?_cons_succ, Option.some.injEq, Option.getD_some] at j0 j1 j2 j3 j4 j5 j6 j7 j8 j10
    rcases (show i = 0 ∨ i = 1 ∨ i = 2 ∨ i = 3 ∨ i = 4 ∨ i = 5 ∨ i = 6 ∨ i = 7 ∨ i = 8 ∨ i = 9 ∨ i = 10 by omega) with rfl | rfl | rfl | rfl | rfl | rfl | rfl | rfl | rfl | rfl | rfl
    · simp only [List.getElem?_cons_zero, List.getElem?_cons_succ, Option.some.injEq] at ho
      subst ho
      have h9 : d 9 = false := by
        cases h : d 9 with
        | false => rfl
        | true => exact nomatch (((p1_0 (p6_1 (p7_6 (p9_7 h))))).symm.trans hi)
      have h0 := cell_later (jw h9) C0.out (Nat.le_refl _)
      simp only [putL, Act.put, List.setIfInBounds_toArray, List.set_cons_succ, List.set_cons_zero] at h0 ⊢
      go_wp2
      exact ⟨rfl, [_, x1, x2, x3, x4, x5, x6, x7, x8, x9], rfl, (by simp only [putL, Act.put, List.setIfInBounds_toArray, List.set_cons_succ, List.set_cons_zero]), (fun _ => rfl), j1, j2, j3, j4, j5, j6, j7, j8, j10, (fun _ => rfl), p4_2, p4_3, p6_1, p6_4, p6_5, p7_6, p8_6, p9_7, p10_8, jz, jw, jb⟩
    · simp only [List.getElem?_cons_zero, List.getElem?_cons_succ, Option.some.injEq] at ho
      subst ho
      have h9 : d 9 = false := by
        cases h : d 9 with
        | false => rfl
        | true => exact nomatch (((p6_1 (p7_6 (p9_7 h)))).symm.trans hi)
      obtain rfl := j0 (List.all_eq_true.1 hw 0 (by decide))
      simp only [putL, Act.put, List.setIfInBounds_toArray, List.set_cons_succ, List.set_cons_zero]
      go_wp2
      exact ⟨rfl, [_, _, x2, x3, x4, x5, x6, x7, x8, x9], rfl, (by simp only [putL, Act.put, List.setIfInBounds_toArray, List.set_cons_succ, List.set_cons_zero]), (fun _ => rfl), (fun _ => rfl), j2, j3, j4, j5, j6, j7, j8, j10, (fun _ => List.all_eq_true.1 hw 0 (by decide)), p4_2, p4_3, (fun _ => rfl), p6_4, p6_5, p7_6, p8_6, p9_7, p10_8, jz, jw, jb⟩
    · simp only [List.getElem?_cons_zero, List.getElem?_cons_succ, Option.some.injEq] at ho
      subst ho
      have h9 : d 9 = false := by
        cases h : d 9 with
        | false => rfl
        | true => exact nomatch (((p4_2 (p6_4 (p7_6 (p9_7 h))))).symm.trans hi)
      simp only [putL, Act.put, List.setIfInBounds_toArray, List.set_cons_succ, List.set_cons_zero]
      go_wp2
      exact ⟨rfl, [x0, x1, _, x3, x4, x5, x6, x7, x8, x9], rfl, (by simp only [putL, Act.put, List.setIfInBounds_toArray, List.set_cons_succ, List.set_cons_zero]), j0, j1, (fun _ => rfl), j3, j4, j5, j6, j7, j8, j10, p1_0, (fun _ => rfl), p4_3, p6_1, p6_4, p6_5, p7_6, p8_6, p9_7, p10_8, jz, jw, jb⟩
    · simp only [List.getElem?_cons_zero, List.getElem?_cons_succ, Option.some.injEq] at ho
      subst ho
      have h9 : d 9 = false := by
        cases h : d 9 with
        | false => rfl
        | true => exact nomatch (((p4_3 (p6_4 (p7_6 (p9_7 h))))).symm.trans hi)
      simp only [putL, Act.put, List.setIfInBounds_toArray, List.set_cons_succ, List.set_cons_zero]
      go_wp2
      exact ⟨rfl, [x0, x1, x2, _, x4, x5, x6, x7, x8, x9], rfl, (by simp only [putL, Act.put, List.setIfInBounds_toArray, List.set_cons_succ, List.set_cons_zero]), j0, j1, j2, (fun _ => rfl), j4, j5, j6, j7, j8, j10, p1_0, p4_2, (fun _ => rfl), p6_1, p6_4, p6_5, p7_6, p8_6, p9_7, p10_8, jz, jw, jb⟩
    · simp only [List.getElem?_cons_zero, List.getElem?_cons_succ, Option.some.injEq] at ho
      subst ho
      have h9 : d 9 = false := by
        cases h : d 9 with
        | false => rfl
        | true => exact nomatch (((p6_4 (p7_6 (p9_7 h)))).symm.trans hi)
      obtain rfl := j2 (List.all_eq_true.1 hw 2 (by decide))
      obtain rfl := j3 (List.all_eq_true.1 hw 3 (by decide))
      simp only [putL, Act.put, List.setIfInBounds_toArray, List.set_cons_succ, List.set_cons_zero]
      go_wp2_with ((with_reducible refine (CH.out _).mono ?_); rintro e w1 ⟨rfl, hww⟩; replace hww := hww.symm; subst hww)
      exact ⟨rfl, [x0, x1, _, _, _, x5, x6, x7, x8, x9], rfl, (by simp only [putL, Act.put, List.setIfInBounds_toArray, List.set_cons_succ, List.set_cons_zero]), j0, j1, (fun _ => rfl), (fun _ => rfl), (fun _ => rfl), j5, j6, j7, j8, j10, p1_0, (fun _ => List.all_eq_true.1 hw 2 (by decide)), (fun _ => List.all_eq_true.1 hw 3 (by decide)), p6_1, (fun _ => rfl), p6_5, p7_6, p8_6, p9_7, p10_8, jz, jw, jb⟩
    · simp only [List.getElem?_cons_zero, List.getElem?_cons_succ, Option.some.injEq] at ho
      subst ho
      have h9 : d 9 = false := by
        cases h : d 9 with
        | false => rfl
        | true => exact nomatch (((p6_5 (p7_6 (p9_7 h)))).symm.trans hi)
      simp only [putL, Act.put, List.setIfInBounds_toArray, List.set_cons_succ, List.set_cons_zero]
      go_wp2
      exact ⟨rfl, [x0, x1, x2, x3, x4, _, x6, x7, x8, x9], rfl, (by simp only [putL, Act.put, List.setIfInBounds_toArray, List.set_cons_succ, List.set_cons_zero]), j0, j1, j2, j3, j4, (fun _ => rfl), j6, j7, j8, j10, p1_0, p4_2, p4_3, p6_1, p6_4, (fun _ => rfl), p7_6, p8_6, p9_7, p10_8, jz, jw, jb⟩
    · simp only [List.getElem?_cons_zero, List.getElem?_cons_succ, Option.some.injEq] at ho
      subst ho
      have h9 : d 9 = false := by
        cases h : d 9 with
        | false => rfl
        | true => exact nomatch (((p7_6 (p9_7 h))).symm.trans hi)
      obtain rfl := j1 (List.all_eq_true.1 hw 1 (by decide))
      obtain rfl := j4 (List.all_eq_true.1 hw 4 (by decide))
      obtain rfl := j5 (List.all_eq_true.1 hw 5 (by decide))
      simp only [putL, Act.put, List.setIfInBounds_toArray, List.set_cons_succ, List.set_cons_zero]
      go_wp2_with ((with_reducible refine (CE2.out _ (jw h9)).mono ?_); rintro e w1 ⟨rfl, hb⟩)
      exact ⟨rfl, [x0, _, x2, x3, _, _, _, x7, x8, x9], rfl, (by simp only [putL, Act.put, List.setIfInBounds_toArray, List.set_cons_succ, List.set_cons_zero]), j0, (fun _ => rfl), j2, j3, (fun _ => rfl), (fun _ => rfl), (fun _ => rfl), j7, j8, j10, p1_0, p4_2, p4_3, (fun _ => List.all_eq_true.1 hw 1 (by decide)), (fun _ => List.all_eq_true.1 hw 4 (by decide)), (fun _ => List.all_eq_true.1 hw 5 (by decide)), (fun _ => rfl), (fun _ => rfl), p9_7, p10_8, (fun h => nomatch (h9.symm.trans h)), (fun _ => (jw h9).trans (hb.mono (jw h9).size)), (jb.trans (hb.mono jb.size))⟩
    · simp only [List.getElem?_cons_zero, List.getElem?_cons_succ, Option.some.injEq] at ho
      subst ho
      have h9 : d 9 = false := by
        cases h : d 9 with
        | false => rfl
        | true => exact nomatch (((p9_7 h)).symm.trans hi)
      obtain rfl := j6 (List.all_eq_true.1 hw 6 (by decide))
      simp only [putL, Act.put, List.setIfInBounds_toArray, List.set_cons_succ, List.set_cons_zero]
      go_wp2
      exact ⟨rfl, [x0, x1, x2, x3, x4, x5, _, _, x8, x9], rfl, (by simp only [putL, Act.put, List.setIfInBounds_toArray, List.set_cons_succ, List.set_cons_zero]), j0, j1, j2, j3, j4, j5, (fun _ => rfl), (fun _ => rfl), j8, j10, p1_0, p4_2, p4_3, p6_1, p6_4, p6_5, (fun _ => List.all_eq_true.1 hw 6 (by decide)), p8_6, (fun _ => rfl), p10_8, jz, jw, jb⟩
    · simp only [List.getElem?_cons_zero, List.getElem?_cons_succ, Option.some.injEq] at ho
      subst ho
      obtain rfl := j6 (List.all_eq_true.1 hw 6 (by decide))
      simp only [putL, Act.put, List.setIfInBounds_toArray, List.set_cons_succ, List.set_cons_zero]
      go_wp2
      exact ⟨rfl, [x0, x1, x2, x3, x4, x5, _, x7, _, x9], rfl, (by simp only [putL, Act.put, List.setIfInBounds_toArray, List.set_cons_succ, List.set_cons_zero]), j0, j1, j2, j3, j4, j5, (fun _ => rfl), j7, (fun _ => rfl), j10, p1_0, p4_2, p4_3, p6_1, p6_4, p6_5, p7_6, (fun _ => List.all_eq_true.1 hw 6 (by decide)), p9_7, (fun _ => rfl), jz, jw, jb⟩
    · simp only [List.getElem?_cons_zero, List.getElem?_cons_succ, Option.some.injEq] at ho
      subst ho
      obtain rfl := j7 (List.all_eq_true.1 hw 7 (by decide))
      have VZw := VZ1.out.later (jw hi) VZ1.out.lt
      have k0 := VZw.c0
      have k1 := VZw.c1
      have f0 := VZw.frozen 0
      have f1 := VZw.frozen 1
      simp only [putL, Act.put, List.setIfInBounds_toArray, List.set_cons_succ, List.set_cons_zero]
      go_wp2
      exact ⟨rfl, [x0, x1, x2, x3, x4, x5, x6, _, x8, x9], rfl, (by simp only [putL, Act.put, List.setIfInBounds_toArray, List.set_cons_succ, List.set_cons_zero]), j0, j1, j2, j3, j4, j5, j6, (fun _ => rfl), j8, j10, p1_0, p4_2, p4_3, p6_1, p6_4, p6_5, p7_6, p8_6, (fun _ => List.all_eq_true.1 hw 7 (by decide)), p10_8, (fun _ => VZw.set2 rp rq), (fun h => nomatch h), ((jb.setCell (by simp; try omega) _).setCell (by simp; try omega) _)⟩
    · simp only [List.getElem?_cons_zero, List.getElem?_cons_succ, Option.some.injEq] at ho
      subst ho
      obtain rfl := j8 (List.all_eq_true.1 hw 8 (by decide))
      simp only [putL, Act.put, List.setIfInBounds_toArray, List.set_cons_succ, List.set_cons_zero]
      go_wp2
      exact ⟨rfl, [x0, x1, x2, x3, x4, x5, x6, x7, _, _], rfl, (by simp only [putL, Act.put, List.setIfInBounds_toArray, List.set_cons_succ, List.set_cons_zero]), j0, j1, j2, j3, j4, j5, j6, j7, (fun _ => rfl), (fun _ => rfl), p1_0, p4_2, p4_3, p6_1, p6_4, p6_5, p7_6, p8_6, p9_7, (fun _ => List.all_eq_true.1 hw 8 (by decide)), jz, jw, jb⟩

set_option maxHeartbeats 1000000 in
theorem vwide_refuse (w : Int) (h : Bool) (s : Bool) (a : Nat × Nat) (h8 : (w != 8) = true) (h16 : (w != 16) = true) (h32 : (w != 32) = true) (W : World) :
    Calls Tryd.prog 24 #[.int .i64 w, .bool s, .bool h, vecV a] W fun e W' => e = .returned (vecE ((0, 0), 2)) ∧ Below W.heap.size W W' := by
  obtain ⟨wa, hwa⟩ : ∃ wa, ((((W.alloc (.cells #[.int .i64 w] 3)).alloc (.cells #[.bool s] 4)).alloc (.cells #[.int .u64 (a.1 : Int), .int .u64 (a.2 : Int)] 25)).alloc (.cells #[.int .u64 0, .int .u64 0] 25)) = wa := ⟨_, rfl⟩
  have B0 : Below W.heap.size W W := Below.refl _ _
  have B1 := B0.alloc B0.size (.cells #[.int .i64 w] 3)
  have B2 := B1.alloc B1.size (.cells #[.bool s] 4)
  have B3 := B2.alloc B2.size (.cells #[.int .u64 (a.1 : Int), .int .u64 (a.2 : Int)] 25)
  have B4 := B3.alloc B3.size (.cells #[.int .u64 0, .int .u64 0] 25)
  have BA : Hide (Below W.heap.size W wa) := hide (by rw [← hwa]; exact B4)
  have Cw : wa.cell? ⟨W.heap.size, 0, none⟩ = some (.int .i64 w) := by rw [← hwa]; exact cell_of (alloc_past (alloc_past (alloc_past (alloc_at (by simp)))))
  have Cs : wa.cell? ⟨W.heap.size + 1, 0, none⟩ = some (.bool s) := by rw [← hwa]; exact cell_of (alloc_past (alloc_past (alloc_at (by simp))))
  have Va : VBlk wa (W.heap.size + 2) a := by rw [← hwa]; exact alloc_past (alloc_at (by simp))
  have VZ : Hide (VBlk wa (W.heap.size + 3) (0, 0)) := hide (by rw [← hwa]; exact alloc_at (by simp))
  have HWA := hide hwa
  clear hwa B0 B1 B2 B3 B4
  clear Va
  obtain ⟨a0, a1⟩ := a
  unfold vecE
  unfold vecV at *
  simp only at *
  have g0 := VZ.out.c0
  have g1 := VZ.out.c1
  have z0 := VZ.out.frozen 0
  have z1 := VZ.out.frozen 1
  go_enter Tryd.func24, Tryd.ntmps24
  go_wp2_with fail
  rw [HWA.out]
  refine bodyPost_ret (v := .tuple #[.agg #[.int .u64 0, .int .u64 0], .int .i64 2]) (VZ.out.result2 (by rfl) _ rfl rfl) rfl ?_
  exact ⟨rfl, BA.out⟩
end Go.Proofs.YtoihfmammmkloaaDoor
/-
  vints.Narrow, over what is told of its callees (gencode7b.py wrote it).
-/
set_option linter.unusedVariables false
set_option linter.unusedSimpArgs false
namespace Go.Proofs.YtoihfmammmkloaaDoor
open Go.RowKit Lan

theorem own_x {W W' : World} {c : Nat} {L : List Nat} {e : Ending} (h : ListOwn W L e W') (hl : L.length = c) (hc : 1 ≤ c) :
    ∃ g cap, W.heap.size ≤ g ∧ e = .returned (.slice (some ⟨g, 0, none⟩) c cap) ∧ c ≤ cap ∧ XBlk W' g c L ∧ Below W.heap.size W W' := by
  obtain ⟨v, rfl, ho, hb⟩ := h
  obtain ⟨g, cap, cur, hg, rfl, hcap, hblk, hcell⟩ := own_post ho (by omega)
  rw [hl] at hcap hcell ⊢
  exact ⟨g, cap, hg, rfl, hcap, ⟨cur, hblk, hcell⟩, hb⟩

def NarJ16 (a0 a1 b0 b1 b z : Nat) (L : List Nat) (rp rq : Nat) (re : Int) (W wa : World) (d : Nat → Bool) (vs : List Value) (wz : World) : Prop :=
  (d 0 = true → vs[0]?.getD undef = .int .i64 16) ∧ (d 1 = true → vs[1]?.getD undef = .int .i64 8) ∧ (d 2 = true → vs[2]?.getD undef = .int .i64 16) ∧ (d 3 = true → vs[3]?.getD undef = .agg #[.int .u64 (a0 : Int), .int .u64 (a1 : Int)]) ∧ (d 4 = true → vs[4]?.getD undef = .agg #[.int .u64 (b0 : Int), .int .u64 (b1 : Int)]) ∧ (d 5 = true → ∃ g cap, vs[5]?.getD undef = .slice (some ⟨g, 0, none⟩) 16 cap ∧ wa.heap.size ≤ g ∧ (d 10 = false → XBlk wz g 16 L)) ∧ (d 6 = true → vs[6]?.getD undef = .func (.func 56) #[] #[.pointer (some ⟨b, 0, none⟩), .pointer (some ⟨(b + 1), 0, none⟩)]) ∧ (d 7 = true → vs[7]?.getD undef = .tuple #[.agg #[.int .u64 (rp : Int), .int .u64 (rq : Int)], .int .i64 re]) ∧ (d 8 = true → vs[8]?.getD undef = .agg #[.int .u64 (rp : Int), .int .u64 (rq : Int)]) ∧ (d 9 = true → vs[9]?.getD undef = .int .i64 re) ∧ (d 11 = true → vs[10]?.getD undef = .int .i64 re) ∧ (d 1 = true → d 0 = true) ∧ (d 5 = true → d 2 = true) ∧ (d 5 = true → d 3 = true) ∧ (d 5 = true → d 4 = true) ∧ (d 7 = true → d 1 = true) ∧ (d 7 = true → d 5 = true) ∧ (d 7 = true → d 6 = true) ∧ (d 8 = true → d 7 = true) ∧ (d 9 = true → d 7 = true) ∧ (d 10 = true → d 8 = true) ∧ (d 11 = true → d 9 = true) ∧ (d 10 = true → VBlk wz z (rp, rq)) ∧ (d 10 = false → Below wa.heap.size wa wz) ∧ Below W.heap.size W wz

set_option maxHeartbeats 4000000 in
theorem vnar16_walk (s : Bool) (a b : Nat × Nat) (L : List Nat) (hl : L.length = 16) (rp rq : Nat) (re : Int) (W : World)
    (hJ : ∀ W', Below W.heap.size W W' → Calls Tryd.prog 55 #[.int .i64 16, vecV a, vecV b] W' fun e W'' => ListOwn W' L e W'')
    (hE : ∀ (q0 q1 : Nat) (W' : World), Below W.heap.size W W' → W'.cell? ⟨q0, 0, none⟩ = some (.int .i64 16) → W'.cell? ⟨q1, 0, none⟩ = some (.bool s) →
      ∀ (W2 : World) (g cap : Nat), Below W'.heap.size W' W2 → XBlk W2 g 16 L → Calls Tryd.prog 54 #[.int .i64 8, .slice (some ⟨g, 0, none⟩) 16 cap, .func (.func 56) #[] #[.pointer (some ⟨q0, 0, none⟩), .pointer (some ⟨q1, 0, none⟩)]] W2 fun e W'' => e = .returned (vecE ((rp, rq), re)) ∧ Below W2.heap.size W2 W'') :
    Calls Tryd.prog 22 #[.int .i64 16, .bool s, vecV a, vecV b] W fun e W' => e = .returned (vecE ((rp, rq), re)) ∧ Below W.heap.size W W' := by
  obtain ⟨wa, hwa⟩ : ∃ wa, (((((W.alloc (.cells #[.int .i64 16] 3)).alloc (.cells #[.bool s] 4)).alloc (.cells #[.int .u64 (a.1 : Int), .int .u64 (a.2 : Int)] 25)).alloc (.cells #[.int .u64 (b.1 : Int), .int .u64 (b.2 : Int)] 25)).alloc (.cells #[.int .u64 0, .int .u64 0] 25)) = wa := ⟨_, rfl⟩
  have B0 : Below W.heap.size W W := Below.refl _ _
  have B1 := B0.alloc B0.size (.cells #[.int .i64 16] 3)
  have B2 := B1.alloc B1.size (.cells #[.bool s] 4)
  have B3 := B2.alloc B2.size (.cells #[.int .u64 (a.1 : Int), .int .u64 (a.2 : Int)] 25)
  have B4 := B3.alloc B3.size (.cells #[.int .u64 (b.1 : Int), .int .u64 (b.2 : Int)] 25)
  have B5 := B4.alloc B4.size (.cells #[.int .u64 0, .int .u64 0] 25)
  have BA : Hide (Below W.heap.size W wa) := hide (by rw [← hwa]; exact B5)
  have Cw : wa.cell? ⟨W.heap.size, 0, none⟩ = some (.int .i64 16) := by rw [← hwa]; exact cell_of (alloc_past (alloc_past (alloc_past (alloc_past (alloc_at (by simp))))))
  have Cs : wa.cell? ⟨W.heap.size + 1, 0, none⟩ = some (.bool s) := by rw [← hwa]; exact cell_of (alloc_past (alloc_past (alloc_past (alloc_at (by simp)))))
  have Va : VBlk wa (W.heap.size + 2) a := by rw [← hwa]; exact alloc_past (alloc_past (alloc_at (by simp)))
  have Vb : VBlk wa (W.heap.size + 3) b := by rw [← hwa]; exact alloc_past (alloc_at (by simp))
  have VZ : Hide (VBlk wa (W.heap.size + 4) (0, 0)) := hide (by rw [← hwa]; exact alloc_at (by simp))
  have HWA := hide hwa
  clear hwa B0 B1 B2 B3 B4 B5
  have CJ := hide (fun W' (hb : Below wa.heap.size wa W') => hJ W' (BA.out.trans (hb.mono BA.out.size)))
  have C0 := hide Cw
  have CE2 := hide (hE W.heap.size (W.heap.size + 1) wa BA.out Cw Cs)
  have VA := hide Va
  have VB := hide Vb
  have VZ1 := hide VZ.out
  have B1 := hide BA.out
  have HL := hide hl
  clear hJ hE Cs hl Va Vb VZ BA
  obtain ⟨a0, a1⟩ := a
  obtain ⟨b0, b1⟩ := b
  unfold vecE at CE2 ⊢
  unfold vecV at *
  simp only at *
  go_enter Tryd.func22, Tryd.ntmps22
  go_wp2_with fail
  rw [HWA.out]
  go_wp2_with fail
  clear Cw HWA
  refine wp_region_par [17, 18, 19, 20, 21, 22, 23, 24, 25, 26, 9] (NarJ16 a0 a1 b0 b1 W.heap.size (W.heap.size + 4) L rp rq re W wa) (by kernel_rfl) (by kernel_rfl) ?_ ?_ ?_
  · intro vs
    exact ⟨(fun h => by cases h), (fun h => by cases h), (fun h => by cases h), (fun h => by cases h), (fun h => by cases h), (fun h => by cases h), (fun h => by cases h), (fun h => by cases h), (fun h => by cases h), (fun h => by cases h), (fun h => by cases h), (fun h => by cases h), (fun h => by cases h), (fun h => by cases h), (fun h => by cases h), (fun h => by cases h), (fun h => by cases h), (fun h => by cases h), (fun h => by cases h), (fun h => by cases h), (fun h => by cases h), (fun h => by cases h), (fun h => by cases h), (fun _ => (Below.refl _ _).drew), B1.out.drew⟩
  · intro d vs w2 hd hl hJ
    match vs, hl with
    | [x0, x1, x2, x3, x4, x5, x6, x7, x8, x9, x10], _ =>
    obtain ⟨j0, j1, j2, j3, j4, j5, j6, j7, j8, j9, j11, p1_0, p5_2, p5_3, p5_4, p7_1, p7_5, p7_6, p8_7, p9_7, p10_8, p11_9, jz, jw, jb⟩ := hJ
    simp only [List.getElem?_cons_zero, List.getElem?_cons_succ, Option.some.injEq, Option.getD_some] at j0 j1 j2 j3 j4 j5 j6 j7 j8 j9 j11
    obtain rfl := j0 (hd 0 (by decide))
    obtain rfl := j1 (hd 1 (by decide))
    obtain rfl := j2 (hd 2 (by decide))
    obtain rfl := j3 (hd 3 (by decide))
    obtain rfl := j4 (hd 4 (by decide))
    obtain ⟨g5, cap5, rfl, _⟩ := j5 (hd 5 (by decide))
    obtain rfl := j6 (hd 6 (by decide))
    obtain rfl := j7 (hd 7 (by decide))
    obtain rfl := j8 (hd 8 (by decide))
    obtain rfl := j9 (hd 9 (by decide))
    obtain rfl := j11 (hd 11 (by decide))
    have KZ := hide (jz (hd 10 (by decide)))
    have KB := hide jb
    clear hd hl j0 j1 j2 j3 j4 j5 j6 j7 j8 j9 j11 p1_0 p5_2 p5_3 p5_4 p7_1 p7_5 p7_6 p8_7 p9_7 p10_8 p11_9 jz jw jb
    simp only [putL, Act.put, List.setIfInBounds_toArray, List.set_cons_succ, List.set_cons_zero]
    go_wp2
    refine bodyPost_ret (v := .tuple #[.agg #[.int .u64 (rp : Int), .int .u64 (rq : Int)], .int .i64 re]) (KZ.out.result2 (by rfl) _ rfl rfl) rfl ?_
    exact ⟨rfl, KB.out⟩
  · intro i o ho d vs w hl hJ hi hw
    match vs, hl with
    | [x0, x1, x2, x3, x4, x5, x6, x7, x8, x9, x10], _ =>
    have hin : i < 12 := (List.getElem?_eq_some_iff.1 ho).1
    obtain ⟨j0, j1, j2, j3, j4, j5, j6, j7, j8, j9, j11, p1_0, p5_2, p5_3, p5_4, p7_1, p7_5, p7_6, p8_7, p9_7, p10_8, p11_9, jz, jw, jb⟩ := hJ
    simp only [List.getElem?_cons_zero, List.getElem?_cons_succ, Option.some.injEq, Option.getD_some] at j0 j1 j2 j3 j4 j5 j6 j7 j8 j9 j11
    rcases (show i = 0 ∨ i = 1 ∨ i = 2 ∨ i = 3 ∨ i = 4 ∨ i = 5 ∨ i = 6 ∨ i = 7 ∨ i = 8 ∨ i = 9 ∨ i = 10 ∨ i = 11 by omega) with rfl | rfl | rfl | rfl | rfl | rfl | rfl | rfl | rfl | rfl | rfl | rfl
    · simp only [List.getElem?_cons_zero, List.getElem?_cons_succ, Option.some.injEq] at ho
      subst ho
      have h9 : d 10 = false := by
        cases h : d 10 with
        | false => rfl
        | true => exact nomatch (((p1_0 (p7_1 (p8_7 (p10_8 h))))).symm.trans hi)
      have h0 := cell_later (jw h9) C0.out (Nat.le_refl _)
      simp only [putL, Act.put, List.setIfInBounds_toArray, List.set_cons_succ, List.set_cons_zero] at h0 ⊢
      go_wp2
      exact ⟨rfl, [_, x1, x2, x3, x4, x5, x6, x7, x8, x9, x10], rfl, (by simp only [putL, Act.put, List.setIfInBounds_toArray, List.set_cons_succ, List.set_cons_zero]), (fun _ => rfl), j1, j2, j3, j4, j5, j6, j7, j8, j9, j11, (fun _ => rfl), p5_2, p5_3, p5_4, p7_1, p7_5, p7_6, p8_7, p9_7, p10_8, p11_9, jz, jw, jb⟩
    · simp only [List.getElem?_cons_zero, List.getElem?_cons_succ, Option.some.injEq] at ho
      subst ho
      have h9 : d 10 = false := by
        cases h : d 10 with
        | false => rfl
        | true => exact nomatch (((p7_1 (p8_7 (p10_8 h)))).symm.trans hi)
      obtain rfl := j0 (List.all_eq_true.1 hw 0 (by decide))
      simp only [putL, Act.put, List.setIfInBounds_toArray, List.set_cons_succ, List.set_cons_zero]
      go_wp2
      exact ⟨rfl, [_, _, x2, x3, x4, x5, x6, x7, x8, x9, x10], rfl, (by simp only [putL, Act.put, List.setIfInBounds_toArray, List.set_cons_succ, List.set_cons_zero]), (fun _ => rfl), (fun _ => rfl), j2, j3, j4, j5, j6, j7, j8, j9, j11, (fun _ => List.all_eq_true.1 hw 0 (by decide)), p5_2, p5_3, p5_4, (fun _ => rfl), p7_5, p7_6, p8_7, p9_7, p10_8, p11_9, jz, jw, jb⟩
    · simp only [List.getElem?_cons_zero, List.getElem?_cons_succ, Option.some.injEq] at ho
      subst ho
      have h9 : d 10 = false := by
        cases h : d 10 with
        | false => rfl
        | true => exact nomatch (((p5_2 (p7_5 (p8_7 (p10_8 h))))).symm.trans hi)
      have h0 := cell_later (jw h9) C0.out (Nat.le_refl _)
      simp only [putL, Act.put, List.setIfInBounds_toArray, List.set_cons_succ, List.set_cons_zero] at h0 ⊢
      go_wp2
      exact ⟨rfl, [x0, x1, _, x3, x4, x5, x6, x7, x8, x9, x10], rfl, (by simp only [putL, Act.put, List.setIfInBounds_toArray, List.set_cons_succ, List.set_cons_zero]), j0, j1, (fun _ => rfl), j3, j4, j5, j6, j7, j8, j9, j11, p1_0, (fun _ => rfl), p5_3, p5_4, p7_1, p7_5, p7_6, p8_7, p9_7, p10_8, p11_9, jz, jw, jb⟩
    · simp only [List.getElem?_cons_zero, List.getElem?_cons_succ, Option.some.injEq] at ho
      subst ho
      have h9 : d 10 = false := by
        cases h : d 10 with
        | false => rfl
        | true => exact nomatch (((p5_3 (p7_5 (p8_7 (p10_8 h))))).symm.trans hi)
      have h0 := (VA.out.later (jw h9) VA.out.lt).c0
      have h1 := (VA.out.later (jw h9) VA.out.lt).c1
      simp only [putL, Act.put, List.setIfInBounds_toArray, List.set_cons_succ, List.set_cons_zero] at h0 h1 ⊢
      go_wp2
      exact ⟨rfl, [x0, x1, x2, _, x4, x5, x6, x7, x8, x9, x10], rfl, (by simp only [putL, Act.put, List.setIfInBounds_toArray, List.set_cons_succ, List.set_cons_zero]), j0, j1, j2, (fun _ => rfl), j4, j5, j6, j7, j8, j9, j11, p1_0, p5_2, (fun _ => rfl), p5_4, p7_1, p7_5, p7_6, p8_7, p9_7, p10_8, p11_9, jz, jw, jb⟩
    · simp only [List.getElem?_cons_zero, List.getElem?_cons_succ, Option.some.injEq] at ho
      subst ho
      have h9 : d 10 = false := by
        cases h : d 10 with
        | false => rfl
        | true => exact nomatch (((p5_4 (p7_5 (p8_7 (p10_8 h))))).symm.trans hi)
      have h0 := (VB.out.later (jw h9) VB.out.lt).c0
      have h1 := (VB.out.later (jw h9) VB.out.lt).c1
      simp only [putL, Act.put, List.setIfInBounds_toArray, List.set_cons_succ, List.set_cons_zero] at h0 h1 ⊢
      go_wp2
      exact ⟨rfl, [x0, x1, x2, x3, _, x5, x6, x7, x8, x9, x10], rfl, (by simp only [putL, Act.put, List.setIfInBounds_toArray, List.set_cons_succ, List.set_cons_zero]), j0, j1, j2, j3, (fun _ => rfl), j5, j6, j7, j8, j9, j11, p1_0, p5_2, p5_3, (fun _ => rfl), p7_1, p7_5, p7_6, p8_7, p9_7, p10_8, p11_9, jz, jw, jb⟩
    · simp only [List.getElem?_cons_zero, List.getElem?_cons_succ, Option.some.injEq] at ho
      subst ho
      have h9 : d 10 = false := by
        cases h : d 10 with
        | false => rfl
        | true => exact nomatch (((p7_5 (p8_7 (p10_8 h)))).symm.trans hi)
      obtain rfl := j2 (List.all_eq_true.1 hw 2 (by decide))
      obtain rfl := j3 (List.all_eq_true.1 hw 3 (by decide))
      obtain rfl := j4 (List.all_eq_true.1 hw 4 (by decide))
      simp only [putL, Act.put, List.setIfInBounds_toArray, List.set_cons_succ, List.set_cons_zero]
      go_wp2_with ((with_reducible refine (CJ.out _ (jw h9)).mono ?_); rintro e w1 hpost; obtain ⟨g, cap, hg, rfl, hcap, hx, hb⟩ := own_x hpost HL.out (by decide))
      exact ⟨rfl, [x0, x1, _, _, _, _, x6, x7, x8, x9, x10], rfl, (by simp only [putL, Act.put, List.setIfInBounds_toArray, List.set_cons_succ, List.set_cons_zero]), j0, j1, (fun _ => rfl), (fun _ => rfl), (fun _ => rfl), (fun _ => ⟨g, cap, rfl, Nat.le_trans (jw h9).size hg, fun _ => hx⟩), j6, j7, j8, j9, j11, p1_0, (fun _ => List.all_eq_true.1 hw 2 (by decide)), (fun _ => List.all_eq_true.1 hw 3 (by decide)), (fun _ => List.all_eq_true.1 hw 4 (by decide)), p7_1, (fun _ => rfl), p7_6, p8_7, p9_7, p10_8, p11_9, (fun h => nomatch (h9.symm.trans h)), (fun _ => (jw h9).trans (hb.mono (jw h9).size)), (jb.trans (hb.mono jb.size))⟩
    · simp only [List.getElem?_cons_zero, List.getElem?_cons_succ, Option.some.injEq] at ho
      subst ho
      have h9 : d 10 = false := by
        cases h : d 10 with
        | false => rfl
        | true => exact nomatch (((p7_6 (p8_7 (p10_8 h)))).symm.trans hi)
      simp only [putL, Act.put, List.setIfInBounds_toArray, List.set_cons_succ, List.set_cons_zero]
      go_wp2
      exact ⟨rfl, [x0, x1, x2, x3, x4, x5, _, x7, x8, x9, x10], rfl, (by simp only [putL, Act.put, List.setIfInBounds_toArray, List.set_cons_succ, List.set_cons_zero]), j0, j1, j2, j3, j4, j5, (fun _ => rfl), j7, j8, j9, j11, p1_0, p5_2, p5_3, p5_4, p7_1, p7_5, (fun _ => rfl), p8_7, p9_7, p10_8, p11_9, jz, jw, jb⟩
    · simp only [List.getElem?_cons_zero, List.getElem?_cons_succ, Option.some.injEq] at ho
      subst ho
      have h9 : d 10 = false := by
        cases h : d 10 with
        | false => rfl
        | true => exact nomatch (((p8_7 (p10_8 h))).symm.trans hi)
      obtain rfl := j1 (List.all_eq_true.1 hw 1 (by decide))
      obtain ⟨g5, cap5, rfl, hg5, hx5⟩ := j5 (List.all_eq_true.1 hw 5 (by decide))
      obtain rfl := j6 (List.all_eq_true.1 hw 6 (by decide))
      simp only [putL, Act.put, List.setIfInBounds_toArray, List.set_cons_succ, List.set_cons_zero]
      go_wp2_with ((with_reducible refine (CE2.out _ _ _ (jw h9) (hx5 h9)).mono ?_); rintro e w1 ⟨rfl, hb⟩)
      exact ⟨rfl, [x0, _, x2, x3, x4, _, _, _, x8, x9, x10], rfl, (by simp only [putL, Act.put, List.setIfInBounds_toArray, List.set_cons_succ, List.set_cons_zero]), j0, (fun _ => rfl), j2, j3, j4, (fun _ => ⟨g5, cap5, rfl, hg5, fun _ => (hx5 h9).later hb (hx5 h9).lt⟩), (fun _ => rfl), (fun _ => rfl), j8, j9, j11, p1_0, p5_2, p5_3, p5_4, (fun _ => List.all_eq_true.1 hw 1 (by decide)), (fun _ => List.all_eq_true.1 hw 5 (by decide)), (fun _ => List.all_eq_true.1 hw 6 (by decide)), (fun _ => rfl), (fun _ => rfl), p10_8, p11_9, (fun h => nomatch (h9.symm.trans h)), (fun _ => (jw h9).trans (hb.mono (jw h9).size)), (jb.trans (hb.mono jb.size))⟩
    · simp only [List.getElem?_cons_zero, List.getElem?_cons_succ, Option.some.injEq] at ho
      subst ho
      have h9 : d 10 = false := by
        cases h : d 10 with
        | false => rfl
        | true => exact nomatch (((p10_8 h)).symm.trans hi)
      obtain rfl := j7 (List.all_eq_true.1 hw 7 (by decide))
      simp only [putL, Act.put, List.setIfInBounds_toArray, List.set_cons_succ, List.set_cons_zero]
      go_wp2
      exact ⟨rfl, [x0, x1, x2, x3, x4, x5, x6, _, _, x9, x10], rfl, (by simp only [putL, Act.put, List.setIfInBounds_toArray, List.set_cons_succ, List.set_cons_zero]), j0, j1, j2, j3, j4, j5, j6, (fun _ => rfl), (fun _ => rfl), j9, j11, p1_0, p5_2, p5_3, p5_4, p7_1, p7_5, p7_6, (fun _ => List.all_eq_true.1 hw 7 (by decide)), p9_7, (fun _ => rfl), p11_9, jz, jw, jb⟩
    · simp only [List.getElem?_cons_zero, List.getElem?_cons_succ, Option.some.injEq] at ho
      subst ho
      obtain rfl := j7 (List.all_eq_true.1 hw 7 (by decide))
      simp only [putL, Act.put, List.setIfInBounds_toArray, List.set_cons_succ, List.set_cons_zero]
      go_wp2
      exact ⟨rfl, [x0, x1, x2, x3, x4, x5, x6, _, x8, _, x10], rfl, (by simp only [putL, Act.put, List.setIfInBounds_toArray, List.set_cons_succ, List.set_cons_zero]), j0, j1, j2, j3, j4, j5, j6, (fun _ => rfl), j8, (fun _ => rfl), j11, p1_0, p5_2, p5_3, p5_4, p7_1, p7_5, p7_6, p8_7, (fun _ => List.all_eq_true.1 hw 7 (by decide)), p10_8, (fun _ => rfl), jz, jw, jb⟩
    · simp only [List.getElem?_cons_zero, List.getElem?_cons_succ, Option.some.injEq] at ho
      subst ho
      obtain rfl := j8 (List.all_eq_true.1 hw 8 (by decide))
      have VZw := VZ1.out.later (jw hi) VZ1.out.lt
      have k0 := VZw.c0
      have k1 := VZw.c1
      have f0 := VZw.frozen 0
      have f1 := VZw.frozen 1
      simp only [putL, Act.put, List.setIfInBounds_toArray, List.set_cons_succ, List.set_cons_zero]
      go_wp2
      exact ⟨rfl, [x0, x1, x2, x3, x4, x5, x6, x7, _, x9, x10], rfl, (by simp only [putL, Act.put, List.setIfInBounds_toArray, List.set_cons_succ, List.set_cons_zero]), j0, j1, j2, j3, j4, (fun h => let ⟨g, cap, e, hg, _⟩ := j5 h; ⟨g, cap, e, hg, fun h => nomatch h⟩), j6, j7, (fun _ => rfl), j9, j11, p1_0, p5_2, p5_3, p5_4, p7_1, p7_5, p7_6, p8_7, p9_7, (fun _ => List.all_eq_true.1 hw 8 (by decide)), p11_9, (fun _ => VZw.set2 rp rq), (fun h => nomatch h), ((jb.setCell (by simp; try omega) _).setCell (by simp; try omega) _)⟩
    · simp only [List.getElem?_cons_zero, List.getElem?_cons_succ, Option.some.injEq] at ho
      subst ho
      obtain rfl := j9 (List.all_eq_true.1 hw 9 (by decide))
      simp only [putL, Act.put, List.setIfInBounds_toArray, List.set_cons_succ, List.set_cons_zero]
      go_wp2
      exact ⟨rfl, [x0, x1, x2, x3, x4, x5, x6, x7, x8, _, _], rfl, (by simp only [putL, Act.put, List.setIfInBounds_toArray, List.set_cons_succ, List.set_cons_zero]), j0, j1, j2, j3, j4, j5, j6, j7, j8, (fun _ => rfl), (fun _ => rfl), p1_0, p5_2, p5_3, p5_4, p7_1, p7_5, p7_6, p8_7, p9_7, p10_8, (fun _ => List.all_eq_true.1 hw 9 (by decide)), jz, jw, jb⟩

def NarJ32 (a0 a1 b0 b1 b z : Nat) (L : List Nat) (rp rq : Nat) (re : Int) (W wa : World) (d : Nat → Bool) (vs : List Value) (wz : World) : Prop :=
  (d 0 = true → vs[0]?.getD undef = .int .i64 32) ∧ (d 1 = true → vs[1]?.getD undef = .int .i64 16) ∧ (d 2 = true → vs[2]?.getD undef = .int .i64 32) ∧ (d 3 = true → vs[3]?.getD undef = .agg #[.int .u64 (a0 : Int), .int .u64 (a1 : Int)]) ∧ (d 4 = true → vs[4]?.getD undef = .agg #[.int .u64 (b0 : Int), .int .u64 (b1 : Int)]) ∧ (d 5 = true → ∃ g cap, vs[5]?.getD undef = .slice (some ⟨g, 0, none⟩) 8 cap ∧ wa.heap.size ≤ g ∧ (d 10 = false → XBlk wz g 8 L)) ∧ (d 6 = true → vs[6]?.getD undef = .func (.func 56) #[] #[.pointer (some ⟨b, 0, none⟩), .pointer (some ⟨(b + 1), 0, none⟩)]) ∧ (d 7 = true → vs[7]?.getD undef = .tuple #[.agg #[.int .u64 (rp : Int), .int .u64 (rq : Int)], .int .i64 re]) ∧ (d 8 = true → vs[8]?.getD undef = .agg #[.int .u64 (rp : Int), .int .u64 (rq : Int)]) ∧ (d 9 = true → vs[9]?.getD undef = .int .i64 re) ∧ (d 11 = true → vs[10]?.getD undef = .int .i64 re) ∧ (d 1 = true → d 0 = true) ∧ (d 5 = true → d 2 = true) ∧ (d 5 = true → d 3 = true) ∧ (d 5 = true → d 4 = true) ∧ (d 7 = true → d 1 = true) ∧ (d 7 = true → d 5 = true) ∧ (d 7 = true → d 6 = true) ∧ (d 8 = true → d 7 = true) ∧ (d 9 = true → d 7 = true) ∧ (d 10 = true → d 8 = true) ∧ (d 11 = true → d 9 = true) ∧ (d 10 = true → VBlk wz z (rp, rq)) ∧ (d 10 = false → Below wa.heap.size wa wz) ∧ Below W.heap.size W wz

set_option maxHeartbeats 4000000 in
theorem vnar32_walk (s : Bool) (a b : Nat × Nat) (L : List Nat) (hl : L.length = 8) (rp rq : Nat) (re : Int) (W : World)
    (hJ : ∀ W', Below W.heap.size W W' → Calls Tryd.prog 55 #[.int .i64 32, vecV a, vecV b] W' fun e W'' => ListOwn W' L e W'')
    (hE : ∀ (q0 q1 : Nat) (W' : World), Below W.heap.size W W' → W'.cell? ⟨q0, 0, none⟩ = some (.int .i64 32) → W'.cell? ⟨q1, 0, none⟩ = some (.bool s) →
      ∀ (W2 : World) (g cap : Nat), Below W'.heap.size W' W2 → XBlk W2 g 8 L → Calls Tryd.prog 54 #[.int .i64 16, .slice (some ⟨g, 0, none⟩) 8 cap, .func (.func 56) #[] #[.pointer (some ⟨q0, 0, none⟩), .pointer (some ⟨q1, 0, none⟩)]] W2 fun e W'' => e = .returned (vecE ((rp, rq), re)) ∧ Below W2.heap.size W2 W'') :
    Calls Tryd.prog 22 #[.int .i64 32, .bool s, vecV a, vecV b] W fun e W' => e = .returned (vecE ((rp, rq), re)) ∧ Below W.heap.size W W' := by
  obtain ⟨wa, hwa⟩ : ∃ wa, (((((W.alloc (.cells #[.int .i64 32] 3)).alloc (.cells #[.bool s] 4)).alloc (.cells #[.int .u64 (a.1 : Int), .int .u64 (a.2 : Int)] 25)).alloc (.cells #[.int .u64 (b.1 : Int), .int .u64 (b.2 : Int)] 25)).alloc (.cells #[.int .u64 0, .int .u64 0] 25)) = wa := ⟨_, rfl⟩
  have B0 : Below W.heap.size W W := Below.refl _ _
  have B1 := B0.alloc B0.size (.cells #[.int .i64 32] 3)
  have B2 := B1.alloc B1.size (.cells #[.bool s] 4)
  have B3 := B2.alloc B2.size (.cells #[.int .u64 (a.1 : Int), .int .u64 (a.2 : Int)] 25)
  have B4 := B3.alloc B3.size (.cells #[.int .u64 (b.1 : Int), .int .u64 (b.2 : Int)] 25)
  have B5 := B4.alloc B4.size (.cells #[.int .u64 0, .int .u64 0] 25)
  have BA : Hide (Below W.heap.size W wa) := hide (by rw [← hwa]; exact B5)
  have Cw : wa.cell? ⟨W.heap.size, 0, none⟩ = some (.int .i64 32) := by rw [← hwa]; exact cell_of (alloc_past (alloc_past (alloc_past (alloc_past (alloc_at (by simp))))))
  have Cs : wa.cell? ⟨W.heap.size + 1, 0, none⟩ = some (.bool s) := by rw [← hwa]; exact cell_of (alloc_past (alloc_past (alloc_past (alloc_at (by simp)))))
  have Va : VBlk wa (W.heap.size + 2) a := by rw [← hwa]; exact alloc_past (alloc_past (alloc_at (by simp)))
  have Vb : VBlk wa (W.heap.size + 3) b := by rw [← hwa]; exact alloc_past (alloc_at (by simp))
  have VZ : Hide (VBlk wa (W.heap.size + 4) (0, 0)) := hide (by rw [← hwa]; exact alloc_at (by simp))
  have HWA := hide hwa
  clear hwa B0 B1 B2 B3 B4 B5
  have CJ := hide (fun W' (hb : Below wa.heap.size wa W') => hJ W' (BA.out.trans (hb.mono BA.out.size)))
  have C0 := hide Cw
  have CE2 := hide (hE W.heap.size (W.heap.size + 1) wa BA.out Cw Cs)
  have VA := hide Va
  have VB := hide Vb
  have VZ1 := hide VZ.out
  have B1 := hide BA.out
  have HL := hide hl
  clear hJ hE Cs hl Va Vb VZ BA
  obtain ⟨a0, a1⟩ := a
  obtain ⟨b0, b1⟩ := b
  unfold vecE at CE2 ⊢
  unfold vecV at *
  simp only at *
  go_enter Tryd.func22, Tryd.ntmps22
  go_wp2_with fail
  rw [HWA.out]
  go_wp2_with fail
  clear Cw HWA
  refine wp_region_par [17, 18, 19, 20, 21, 22, 23, 24, 25, 26, 9] (NarJ32 a0 a1 b0 b1 W.heap.size (W.heap.size + 4) L rp rq re W wa) (by kernel_rfl) (by kernel_rfl) ?_ ?_ ?_
  · intro vs
    exact ⟨(fun h => by cases h), (fun h => by cases h), (fun h => by cases h), (fun h => by cases h), (fun h => by cases h), (fun h => by cases h), (fun h => by cases h), (fun h => by cases h), (fun h => by cases h), (fun h => by cases h), (fun h => by cases h), (fun h => by cases h), (fun h => by cases h), (fun h => by cases h), (fun h => by cases h), (fun h => by cases h), (fun h => by cases h), (fun h => by cases h), (fun h => by cases h), (fun h => by cases h), (fun h => by cases h), (fun h => by cases h), (fun h => by cases h), (fun _ => (Below.refl _ _).drew), B1.out.drew⟩
  · intro d vs w2 hd hl hJ
    match vs, hl with
    | [x0, x1, x2, x3, x4, x5, x6, x7, x8, x9, x10], _ =>
    obtain ⟨j0, j1, j2, j3, j4, j5, j6, j7, j8, j9, j11, p1_0, p5_2, p5_3, p5_4, p7_1, p7_5, p7_6, p8_7, p9_7, p10_8, p11_9, jz, jw, jb⟩ := hJ
    simp only [List.getElem?_cons_zero, List.getElem?_cons_succ, Option.some.injEq, Option.getD_some] at j0 j1 j2 j3 j4 j5 j6 j7 j8 j9 j11
    obtain rfl := j0 (hd 0 (by decide))
    obtain rfl := j1 (hd 1 (by decide))
    obtain rfl := j2 (hd 2 (by decide))
    obtain rfl := j3 (hd 3 (by decide))
    obtain rfl := j4 (hd 4 (by decide))
    obtain ⟨g5, cap5, rfl, _⟩ := j5 (hd 5 (by decide))
    obtain rfl := j6 (hd 6 (by decide))
    obtain rfl := j7 (hd 7 (by decide))
    obtain rfl := j8 (hd 8 (by decide))
    obtain rfl := j9 (hd 9 (by decide))
    obtain rfl := j11 (hd 11 (by decide))
    have KZ := hide (jz (hd 10 (by decide)))
    have KB := hide jb
    clear hd hl j0 j1 j2 j3 j4 j5 j6 j7 j8 j9 j11 p1_0 p5_2 p5_3 p5_4 p7_1 p7_5 p7_6 p8_7 p9_7 p10_8 p11_9 jz jw jb
    simp only [putL, Act.put, List.setIfInBounds_toArray, List.set_cons_succ, List.set_cons_zero]
    go_wp2
    refine bodyPost_ret (v := .tuple #[.agg #[.int .u64 (rp : Int), .int .u64 (rq : Int)], .int .i64 re]) (KZ.out.result2 (by rfl) _ rfl rfl) rfl ?_
    exact ⟨rfl, KB.out⟩
  · intro i o ho d vs w hl hJ hi hw
    match vs, hl with
    | [x0, x1, x2, x3, x4, x5, x6, x7, x8, x9, x10], _ =>
    have hin : i < 12 := (List.getElem?_eq_some_iff.1 ho).1
    obtain ⟨j0, j1, j2, j3, j4, j5, j6, j7, j8, j9, j11, p1_0, p5_2, p5_3, p5_4, p7_1, p7_5, p7_6, p8_7, p9_7, p10_8, p11_9, jz, jw, jb⟩ := hJ
    simp only [List.getElem?_cons_zero, List.getElem?_cons_succ, Option.some.injEq, Option.getD_some] at j0 j1 j2 j3 j4 j5 j6 j7 j8 j9 j11
    rcases (show i = 0 ∨ i = 1 ∨ i = 2 ∨ i = 3 ∨ i = 4 ∨ i = 5 ∨ i = 6 ∨ i = 7 ∨ i = 8 ∨ i = 9 ∨ i = 10 ∨ i = 11 by omega) with rfl | rfl | rfl | rfl | rfl | rfl | rfl | rfl | rfl | rfl | rfl | rfl
    · simp only [List.getElem?_cons_zero, List.getElem?_cons_succ, Option.some.injEq] at ho
      subst ho
      have h9 : d 10 = false := by
        cases h : d 10 with
        | false => rfl
        | true => exact nomatch (((p1_0 (p7_1 (p8_7 (p10_8 h))))).symm.trans hi)
      have h0 := cell_later (jw h9) C0.out (Nat.le_refl _)
      simp only [putL, Act.put, List.setIfInBounds_toArray, List.set_cons_succ, List.set_cons_zero] at h0 ⊢
      go_wp2
      exact ⟨rfl, [_, x1, x2, x3, x4, x5, x6, x7, x8, x9, x10], rfl, (by simp only [putL, Act.put, List.setIfInBounds_toArray, List.set_cons_succ, List.set_cons_zero]), (fun _ => rfl), j1, j2, j3, j4, j5, j6, j7, j8, j9, j11, (fun _ => rfl), p5_2, p5_3, p5_4, p7_1, p7_5, p7_6, p8_7, p9_7, p10_8, p11_9, jz, jw, jb⟩
    · simp only [List.getElem?_cons_zero, List.getElem?_cons_succ, Option.some.injEq] at ho
      subst ho
      have h9 : d 10 = false := by
        cases h : d 10 with
        | false => rfl
        | true => exact nomatch (((p7_1 (p8_7 (p10_8 h)))).symm.trans hi)
      obtain rfl := j0 (List.all_eq_true.1 hw 0 (by decide))
      simp only [putL, Act.put, List.setIfInBounds_toArray, List.set_cons_succ, List.set_cons_zero]
      go_wp2
      exact ⟨rfl, [_, _, x2, x3, x4, x5, x6, x7, x8, x9, x10], rfl, (by simp only [putL, Act.put, List.setIfInBounds_toArray, List.set_cons_succ, List.set_cons_zero]), (fun _ => rfl), (fun _ => rfl), j2, j3, j4, j5, j6, j7, j8, j9, j11, (fun _ => List.all_eq_true.1 hw 0 (by decide)), p5_2, p5_3, p5_4, (fun _ => rfl), p7_5, p7_6, p8_7, p9_7, p10_8, p11_9, jz, jw, jb⟩
    · simp only [List.getElem?_cons_zero, List.getElem?_cons_succ, Option.some.injEq] at ho
      subst ho
      have h9 : d 10 = false := by
        cases h : d 10 with
        | false => rfl
        | true => exact nomatch (((p5_2 (p7_5 (p8_7 (p10_8 h))))).symm.trans hi)
      have h0 := cell_later (jw h9) C0.out (Nat.le_refl _)
      simp only [putL, Act.put, List.setIfInBounds_toArray, List.set_cons_succ, List.set_cons_zero] at h0 ⊢
      go_wp2
      exact ⟨rfl, [x0, x1, _, x3, x4, x5, x6, x7, x8, x9, x10], rfl, (by simp only [putL, Act.put, List.setIfInBounds_toArray, List.set_cons_succ, List.set_cons_zero]), j0, j1, (fun _ => rfl), j3, j4, j5, j6, j7, j8, j9, j11, p1_0, (fun _ => rfl), p5_3, p5_4, p7_1, p7_5, p7_6, p8_7, p9_7, p10_8, p11_9, jz, jw, jb⟩
    · simp only [List.getElem?_cons_zero, List.getElem?_cons_succ, Option.some.injEq] at ho
      subst ho
      have h9 : d 10 = false := by
        cases h : d 10 with
        | false => rfl
        | true => exact nomatch (((p5_3 (p7_5 (p8_7 (p10_8 h))))).symm.trans hi)
      have h0 := (VA.out.later (jw h9) VA.out.lt).c0
      have h1 := (VA.out.later (jw h9) VA.out.lt).c1
      simp only [putL, Act.put, List.setIfInBounds_toArray, List.set_cons_succ, List.set_cons_zero] at h0 h1 ⊢
      go_wp2
      exact ⟨rfl, [x0, x1, x2, _, x4, x5, x6, x7, x8, x9, x10], rfl, (by simp only [putL, Act.put, List.setIfInBounds_toArray, List.set_cons_succ, List.set_cons_zero]), j0, j1, j2, (fun _ => rfl), j4, j5, j6, j7, j8, j9, j11, p1_0, p5_2, (fun _ => rfl), p5_4, p7_1, p7_5, p7_6, p8_7, p9_7, p10_8, p11_9, jz, jw, jb⟩
    · simp only [List.getElem?_cons_zero, List.getElem?_cons_succ, Option.some.injEq] at ho
      subst ho
      have h9 : d 10 = false := by
        cases h : d 10 with
        | false => rfl
        | true => exact nomatch (((p5_4 (p7_5 (p8_7 (p10_8 h))))).symm.trans hi)
      have h0 := (VB.out.later (jw h9) VB.out.lt).c0
      have h1 := (VB.out.later (jw h9) VB.out.lt).c1
      simp only [putL, Act.put, List.setIfInBounds_toArray, List.set_cons_succ, List.set_cons_zero] at h0 h1 ⊢
      go_wp2
      exact ⟨rfl, [x0, x1, x2, x3, _, x5, x6, x7, x8, x9, x10], rfl, (by simp only [putL, Act.put, List.setIfInBounds_toArray, List.set_cons_succ, List.set_cons_zero]), j0, j1, j2, j3, (fun _ => rfl), j5, j6, j7, j8, j9, j11, p1_0, p5_2, p5_3, (fun _ => rfl), p7_1, p7_5, p7_6, p8_7, p9_7, p10_8, p11_9, jz, jw, jb⟩
    · simp only [List.getElem?_cons_zero, List.getElem?_cons_succ, Option.some.injEq] at ho
      subst ho
      have h9 : d 10 = false := by
        cases h : d 10 with
        | false => rfl
        | true => exact nomatch (((p7_5 (p8_7 (p10_8 h)))).symm.trans hi)
      obtain rfl := j2 (List.all_eq_true.1 hw 2 (by decide))
      obtain rfl := j3 (List.all_eq_true.1 hw 3 (by decide))
      obtain rfl := j4 (List.all_eq_true.1 hw 4 (by decide))
      simp only [putL, Act.put, List.setIfInBounds_toArray, List.set_cons_succ, List.set_cons_zero]
      go_wp2_with ((with_reducible refine (CJ.out _ (jw h9)).mono ?_); rintro e w1 hpost; obtain ⟨g, cap, hg, rfl, hcap, hx, hb⟩ := own_x hpost HL.out (by decide))
      exact ⟨rfl, [x0, x1, _, _, _, _, x6, x7, x8, x9, x10], rfl, (by simp only [putL, Act.put, List.setIfInBounds_toArray, List.set_cons_succ, List.set_cons_zero]), j0, j1, (fun _ => rfl), (fun _ => rfl), (fun _ => rfl), (fun _ => ⟨g, cap, rfl, Nat.le_trans (jw h9).size hg, fun _ => hx⟩), j6, j7, j8, j9, j11, p1_0, (fun _ => List.all_eq_true.1 hw 2 (by decide)), (fun _ => List.all_eq_true.1 hw 3 (by decide)), (fun _ => List.all_eq_true.1 hw 4 (by decide)), p7_1, (fun _ => rfl), p7_6, p8_7, p9_7, p10_8, p11_9, (fun h => nomatch (h9.symm.trans h)), (fun _ => (jw h9).trans (hb.mono (jw h9).size)), (jb.trans (hb.mono jb.size))⟩
    · simp only [List.getElem?_cons_zero, List.getElem?_cons_succ, Option.some.injEq] at ho
      subst ho
      have h9 : d 10 = false := by
        cases h : d 10 with
        | false => rfl
        | true => exact nomatch (((p7_6 (p8_7 (p10_8 h)))).symm.trans hi)
      simp only [putL, Act.put, List.setIfInBounds_toArray, List.set_cons_succ, List.set_cons_zero]
      go_wp2
      exact ⟨rfl, [x0, x1, x2, x3, x4, x5, _, x7, x8, x9, x10], rfl, (by simp only [putL, Act.put, List.setIfInBounds_toArray, List.set_cons_succ, List.set_cons_zero]), j0, j1, j2, j3, j4, j5, (fun _ => rfl), j7, j8, j9, j11, p1_0, p5_2, p5_3, p5_4, p7_1, p7_5, (fun _ => rfl), p8_7, p9_7, p10_8, p11_9, jz, jw, jb⟩
    · simp only [List.getElem?_cons_zero, List.getElem?_cons_succ, Option.some.injEq] at ho
      subst ho
      have h9 : d 10 = false := by
        cases h : d 10 with
        | false => rfl
        | true => exact nomatch (((p8_7 (p10_8 h))).symm.trans hi)
      obtain rfl := j1 (List.all_eq_true.1 hw 1 (by decide))
      obtain ⟨g5, cap5, rfl, hg5, hx5⟩ := j5 (List.all_eq_true.1 hw 5 (by decide))
      obtain rfl := j6 (List.all_eq_true.1 hw 6 (by decide))
      simp only [putL, Act.put, List.setIfInBounds_toArray, List.set_cons_succ, List.set_cons_zero]
      go_wp2_with ((with_reducible refine (CE2.out _ _ _ (jw h9) (hx5 h9)).mono ?_); rintro e w1 ⟨rfl, hb⟩)
      exact ⟨rfl, [x0, _, x2, x3, x4, _, _, _, x8, x9, x10], rfl, (by simp only [putL, Act.put, List.setIfInBounds_toArray, List.set_cons_succ, List.set_cons_zero]), j0, (fun _ => rfl), j2, j3, j4, (fun _ => ⟨g5, cap5, rfl, hg5, fun _ => (hx5 h9).later hb (hx5 h9).lt⟩), (fun _ => rfl), (fun _ => rfl), j8, j9, j11, p1_0, p5_2, p5_3, p5_4, (fun _ => List.all_eq_true.1 hw 1 (by decide)), (fun _ => List.all_eq_true.1 hw 5 (by decide)), (fun _ => List.all_eq_true.1 hw 6 (by decide)), (fun _ => rfl), (fun _ => rfl), p10_8, p11_9, (fun h => nomatch (h9.symm.trans h)), (fun _ => (jw h9).trans (hb.mono (jw h9).size)), (jb.trans (hb.mono jb.size))⟩
    · simp only [List.getElem?_cons_zero, List.getElem?_cons_succ, Option.some.injEq] at ho
      subst ho
      have h9 : d 10 = false := by
        cases h : d 10 with
        | false => rfl
        | true => exact nomatch (((p10_8 h)).symm.trans hi)
      obtain rfl := j7 (List.all_eq_true.1 hw 7 (by decide))
      simp only [putL, Act.put, List.setIfInBounds_toArray, List.set_cons_succ, List.set_cons_zero]
      go_wp2
      exact ⟨rfl, [x0, x1, x2, x3, x4, x5, x6, _, _, x9, x10], rfl, (by simp only [putL, Act.put, List.setIfInBounds_toArray, List.set_cons_succ, List.set_cons_zero]), j0, j1, j2, j3, j4, j5, j6, (fun _ => rfl), (fun _ => rfl), j9, j11, p1_0, p5_2, p5_3, p5_4, p7_1, p7_5, p7_6, (fun _ => List.all_eq_true.1 hw 7 (by decide)), p9_7, (fun _ => rfl), p11_9, jz, jw, jb⟩
    · simp only [List.getElem?_cons_zero, List.getElem?_cons_succ, Option.some.injEq] at ho
      subst ho
      obtain rfl := j7 (List.all_eq_true.1 hw 7 (by decide))
      simp only [putL, Act.put, List.setIfInBounds_toArray, List.set_cons_succ, List.set_cons_zero]
      go_wp2
      exact ⟨rfl, [x0, x1, x2, x3, x4, x5, x6, _, x8, _, x10], rfl, (by simp only [putL, Act.put, List.setIfInBounds_toArray, List.set_cons_succ, List.set_cons_zero]), j0, j1, j2, j3, j4, j5, j6, (fun _ => rfl), j8, (fun _ => rfl), j11, p1_0, p5_2, p5_3, p5_4, p7_1, p7_5, p7_6, p8_7, (fun _ => List.all_eq_true.1 hw 7 (by decide)), p10_8, (fun _ => rfl), jz, jw, jb⟩
    · simp only [List.getElem?_cons_zero, List.getElem?_cons_succ, Option.some.injEq] at ho
      subst ho
      obtain rfl := j8 (List.all_eq_true.1 hw 8 (by decide))
      have VZw := VZ1.out.later (jw hi) VZ1.out.lt
      have k0 := VZw.c0
      have k1 := VZw.c1
      have f0 := VZw.frozen 0
      have f1 := VZw.frozen 1
      simp only [putL, Act.put, List.setIfInBounds_toArray, List.set_cons_succ, List.set_cons_zero]
      go_wp2
      exact ⟨rfl, [x0, x1, x2, x3, x4, x5, x6, x7, _, x9, x10], rfl, (by simp only [putL, Act.put, List.setIfInBounds_toArray, List.set_cons_succ, List.set_cons_zero]), j0, j1, j2, j3, j4, (fun h => let ⟨g, cap, e, hg, _⟩ := j5 h; ⟨g, cap, e, hg, fun h => nomatch h⟩), j6, j7, (fun _ => rfl), j9, j11, p1_0, p5_2, p5_3, p5_4, p7_1, p7_5, p7_6, p8_7, p9_7, (fun _ => List.all_eq_true.1 hw 8 (by decide)), p11_9, (fun _ => VZw.set2 rp rq), (fun h => nomatch h), ((jb.setCell (by simp; try omega) _).setCell (by simp; try omega) _)⟩
    · simp only [List.getElem?_cons_zero, List.getElem?_cons_succ, Option.some.injEq] at ho
      subst ho
      obtain rfl := j9 (List.all_eq_true.1 hw 9 (by decide))
      simp only [putL, Act.put, List.setIfInBounds_toArray, List.set_cons_succ, List.set_cons_zero]
      go_wp2
      exact ⟨rfl, [x0, x1, x2, x3, x4, x5, x6, x7, x8, _, _], rfl, (by simp only [putL, Act.put, List.setIfInBounds_toArray, List.set_cons_succ, List.set_cons_zero]), j0, j1, j2, j3, j4, j5, j6, j7, j8, (fun _ => rfl), (fun _ => rfl), p1_0, p5_2, p5_3, p5_4, p7_1, p7_5, p7_6, p8_7, p9_7, p10_8, (fun _ => List.all_eq_true.1 hw 9 (by decide)), jz, jw, jb⟩

set_option maxHeartbeats 1000000 in
theorem vnar_refuse (w : Int) (s : Bool) (a : Nat × Nat) (b : Nat × Nat) (h16 : (w != 16) = true) (h32 : (w != 32) = true) (W : World) :
    Calls Tryd.prog 22 #[.int .i64 w, .bool s, vecV a, vecV b] W fun e W' => e = .returned (vecE ((0, 0), 2)) ∧ Below W.heap.size W W' := by
  obtain ⟨wa, hwa⟩ : ∃ wa, (((((W.alloc (.cells #[.int .i64 w] 3)).alloc (.cells #[.bool s] 4)).alloc (.cells #[.int .u64 (a.1 : Int), .int .u64 (a.2 : Int)] 25)).alloc (.cells #[.int .u64 (b.1 : Int), .int .u64 (b.2 : Int)] 25)).alloc (.cells #[.int .u64 0, .int .u64 0] 25)) = wa := ⟨_, rfl⟩
  have B0 : Below W.heap.size W W := Below.refl _ _
  have B1 := B0.alloc B0.size (.cells #[.int .i64 w] 3)
  have B2 := B1.alloc B1.size (.cells #[.bool s] 4)
  have B3 := B2.alloc B2.size (.cells #[.int .u64 (a.1 : Int), .int .u64 (a.2 : Int)] 25)
  have B4 := B3.alloc B3.size (.cells #[.int .u64 (b.1 : Int), .int .u64 (b.2 : Int)] 25)
  have B5 := B4.alloc B4.size (.cells #[.int .u64 0, .int .u64 0] 25)
  have BA : Hide (Below W.heap.size W wa) := hide (by rw [← hwa]; exact B5)
  have Cw : wa.cell? ⟨W.heap.size, 0, none⟩ = some (.int .i64 w) := by rw [← hwa]; exact cell_of (alloc_past (alloc_past (alloc_past (alloc_past (alloc_at (by simp))))))
  have Cs : wa.cell? ⟨W.heap.size + 1, 0, none⟩ = some (.bool s) := by rw [← hwa]; exact cell_of (alloc_past (alloc_past (alloc_past (alloc_at (by simp)))))
  have Va : VBlk wa (W.heap.size + 2) a := by rw [← hwa]; exact alloc_past (alloc_past (alloc_at (by simp)))
  have Vb : VBlk wa (W.heap.size + 3) b := by rw [← hwa]; exact alloc_past (alloc_at (by simp))
  have VZ : Hide (VBlk wa (W.heap.size + 4) (0, 0)) := hide (by rw [← hwa]; exact alloc_at (by simp))
  have HWA := hide hwa
  clear hwa B0 B1 B2 B3 B4 B5
  clear Va
  obtain ⟨a0, a1⟩ := a
  clear Vb
  obtain ⟨b0, b1⟩ := b
  unfold vecE
  unfold vecV at *
  simp only at *
  have g0 := VZ.out.c0
  have g1 := VZ.out.c1
  have z0 := VZ.out.frozen 0
  have z1 := VZ.out.frozen 1
  go_enter Tryd.func22, Tryd.ntmps22
  go_wp2_with fail
  rw [HWA.out]
  refine bodyPost_ret (v := .tuple #[.agg #[.int .u64 0, .int .u64 0], .int .i64 2]) (VZ.out.result2 (by rfl) _ rfl rfl) rfl ?_
  exact ⟨rfl, BA.out⟩
end Go.Proofs.YtoihfmammmkloaaDoor
/-
  vints.sums, over what is told of its callees.
-/
set_option linter.unusedVariables false
set_option linter.unusedSimpArgs false
namespace Go.Proofs.YtoihfmammmkloaaDoor
open Go.RowKit Lan

/-- Of the first k those at even places, at odd places. -/
def evens (f : Nat → Nat) (k : Nat) : List Nat := (List.range ((k + 1) / 2)).map fun i => f (2 * i)
def odds (f : Nat → Nat) (k : Nat) : List Nat := (List.range (k / 2)).map fun i => f (2 * i + 1)
theorem evens_even (f : Nat → Nat) (j : Nat) : evens f (2 * j + 1) = evens f (2 * j) ++ [f (2 * j)] := by
  unfold evens
  rw [show (2 * j + 1 + 1) / 2 = j + 1 by omega, show (2 * j + 1) / 2 = j by omega, List.range_succ, List.map_append]
  rfl
theorem odds_even (f : Nat → Nat) (j : Nat) : odds f (2 * j + 1) = odds f (2 * j) := by
  unfold odds
  rw [show (2 * j + 1) / 2 = j by omega, show (2 * j) / 2 = j by omega]
theorem evens_odd (f : Nat → Nat) (j : Nat) : evens f (2 * j + 1 + 1) = evens f (2 * j + 1) := by
  unfold evens
  rw [show (2 * j + 1 + 1 + 1) / 2 = j + 1 by omega, show (2 * j + 1 + 1) / 2 = j + 1 by omega]
theorem odds_odd (f : Nat → Nat) (j : Nat) : odds f (2 * j + 1 + 1) = odds f (2 * j + 1) ++ [f (2 * j + 1)] := by
  unfold odds
  rw [show (2 * j + 1 + 1) / 2 = j + 1 by omega, show (2 * j + 1) / 2 = j by omega, List.range_succ, List.map_append]
  rfl
theorem evens_length (f : Nat → Nat) (k : Nat) : (evens f k).length = (k + 1) / 2 := by simp [evens]
theorem odds_length (f : Nat → Nat) (k : Nat) : (odds f k).length = k / 2 := by simp [odds]

set_option maxHeartbeats 4000000 in
theorem sums_walk (w : Int) (c : Nat) (hc : 1 ≤ c) (h8 : c ≤ 8) (f : Nat → Nat) (a b : Nat × Nat) (rp rq : Nat) (re : Int) (W : World)
    (hJ : ∀ W', Below W.heap.size W W' → Calls Tryd.prog 55 #[.int .i64 w, vecV a, vecV b] W' fun e W'' => ListOwn W' ((List.range (2 * c)).map f) e W'')
    (hB : ∀ (q : Nat) (W' : World), Below W.heap.size W W' → W'.cell? ⟨q, 0, none⟩ = some (.int .i64 w) → ∀ (W2 : World) (g1 c1 g2 c2 : Nat), Below W'.heap.size W' W2 → Words W2 g1 0 c (evens f (2 * c)) → Words W2 g2 0 c (odds f (2 * c)) →
      Calls Tryd.prog 77 #[.int .i64 w, .slice (some ⟨g1, 0, none⟩) c c1, .slice (some ⟨g2, 0, none⟩) c c2, .func (.func 101) #[] #[.pointer (some ⟨q, 0, none⟩)]] W2 fun e W'' => e = .returned (vecE ((rp, rq), re)) ∧ Below W2.heap.size W2 W'') :
    Calls Tryd.prog 63 #[.int .i64 w, vecV a, vecV b] W fun e W' => e = .returned (vecE ((rp, rq), re)) ∧ Below W.heap.size W W' := by
  obtain ⟨wa, hwa⟩ : ∃ wa, ((((W.alloc (.cells #[.int .i64 w] 3)).alloc (.cells #[.int .u64 (a.1 : Int), .int .u64 (a.2 : Int)] 25)).alloc (.cells #[.int .u64 (b.1 : Int), .int .u64 (b.2 : Int)] 25)).alloc (.cells #[.int .u64 0, .int .u64 0] 25)) = wa := ⟨_, rfl⟩
  have B0 : Below W.heap.size W W := Below.refl _ _
  have B1 := B0.alloc B0.size (.cells #[.int .i64 w] 3)
  have B2 := B1.alloc B1.size (.cells #[.int .u64 (a.1 : Int), .int .u64 (a.2 : Int)] 25)
  have B3 := B2.alloc B2.size (.cells #[.int .u64 (b.1 : Int), .int .u64 (b.2 : Int)] 25)
  have B4 := B3.alloc B3.size (.cells #[.int .u64 0, .int .u64 0] 25)
  have BA : Hide (Below W.heap.size W wa) := hide (by rw [← hwa]; exact B4)
  have Cw : wa.cell? ⟨W.heap.size, 0, none⟩ = some (.int .i64 w) := by rw [← hwa]; exact cell_of (alloc_past (alloc_past (alloc_past (alloc_at (by simp)))))
  have Va : VBlk wa (W.heap.size + 1) a := by rw [← hwa]; exact alloc_past (alloc_past (alloc_at (by simp)))
  have Vb : VBlk wa (W.heap.size + 2) b := by rw [← hwa]; exact alloc_past (alloc_at (by simp))
  have VZ : Hide (VBlk wa (W.heap.size + 3) (0, 0)) := hide (by rw [← hwa]; exact alloc_at (by simp))
  have HWA := hide hwa
  clear hwa B0 B1 B2 B3 B4
  have CJ := hide (hJ wa BA.out)
  have CB := hide hB
  have CW := hide Cw
  clear hJ hB
  obtain ⟨a0, a1⟩ := a
  have ac0 := Va.c0
  have ac1 := Va.c1
  clear Va
  obtain ⟨b0, b1⟩ := b
  have bc0 := Vb.c0
  have bc1 := Vb.c1
  clear Vb
  unfold vecE at CB ⊢
  unfold vecV at *
  simp only at *
  go_enter Tryd.func63, Tryd.ntmps63
  go_wp2_with fail
  rw [HWA.out]
  go_wp2_with fail
  refine CJ.out.mono ?_
  rintro e w1 ⟨v, rfl, ho, hb⟩
  obtain ⟨g, cap, cur, hg, rfl, hcap, hblk, hcell⟩ := own_post ho (by simp; omega)
  have HL : ((List.range (2 * c)).map f).length = 2 * c := by simp
  rw [HL] at hcell ⊢
  have KW : Hide (∀ i, i < 2 * c → w1.cell? ⟨g, i, none⟩ = some (.int .u64 (f i : Int))) := hide (fun i hi => by
    have h1 := hcell i hi
    have e : at0 ((List.range (2 * c)).map f) i = f i := by simp [at0, List.getElem?_range hi]
    rw [e] at h1
    simp [World.cell?, hblk, h1])
  have VZ1 : Hide (VBlk w1 (W.heap.size + 3) (0, 0)) := hide (VZ.out.later hb VZ.out.lt)
  have B1 : Hide (Below W.heap.size W w1) := hide (BA.out.trans (hb.mono BA.out.size))
  have C0 : Hide (w1.cell? ⟨W.heap.size, 0, none⟩ = some (.int .i64 w)) := hide (cell_later hb CW.out (Nat.le_refl _))
  have CB2 := hide (CB.out W.heap.size w1 B1.out C0.out)
  obtain ⟨N, hN⟩ : ∃ N, N = 2 * c := ⟨_, rfl⟩
  rw [← hN] at KW CB2 ⊢
  clear HL ho hcap hblk hcell hb hg VZ BA HWA CJ CB CW ac0 ac1 bc0 bc1 Cw
  go_wp2_with fail
  go_loopw [8, 9, 17] (fun v1 v2 x wr => ∃ (k : Nat) (ve vo : Value), ve = v1 ∧ vo = v2 ∧ x = .int .i64 (k : Int) ∧ k ≤ N ∧ Rows2 wr w1.heap.size ve vo (evens f k) (odds f k) ∧ Below w1.heap.size w1 wr) (fun _ _ x _ => N - (intOf x).toNat)
  case atStart => exact ⟨0, _, _, rfl, rfl, rfl, by omega, Rows2.nil _ _, Below.refl _ _⟩
  case round =>
    obtain ⟨k, ve, vo, rfl, rfl, rfl, hk, hrows, hr⟩ := hrel
    have HBEL := hide hr
    clear hr
    by_cases c0 : k < N
    · have c1 : (k : Int) < (N : Int) := by omega
      have c2 : (k : Int) < 16 := by omega
      have hcell := cell_later HBEL.out (KW.out k c0) (Nat.le_refl _)
      have HC := hide c0
      have HK := hide hk
      have SZ : w1.heap.size ≤ wr.heap.size := HBEL.out.size
      have LE : (evens f k).length ≤ 32 := by rw [evens_length]; omega
      have LO : (odds f k).length ≤ 32 := by rw [odds_length]; omega
      rcases (show k % 2 = 0 ∨ k % 2 = 1 by omega) with hp | hp
      · have hm : ((k : Int)).tmod 2 = 0 := by rw [Int.tmod_eq_emod_of_nonneg (by omega)]; omega
        have EV : Hide (evens f (k + 1) = evens f k ++ [f k]) := hide (by obtain ⟨j, rfl⟩ : ∃ j, k = 2 * j := ⟨k / 2, by omega⟩; exact evens_even f j)
        have OD : Hide (odds f (k + 1) = odds f k) := hide (by obtain ⟨j, rfl⟩ : ∃ j, k = 2 * j := ⟨k / 2, by omega⟩; exact odds_even f j)
        have AM := hide (append_moved (wr.alloc (.cells #[.int .u64 (f k : Int)] 23)) w1.heap.size ve (evens f k) (hrows.1.alloc _) 51 ⟨wr.heap.size, 0, none⟩ (f k) (cell_of (alloc_at rfl)) LE (by simp; omega))
        have HR := hide (hrows.alloc (.cells #[.int .u64 (f k : Int)] 23))
        have LT := hide (hrows.1.lt)
        clear LE LO hp hrows c0 hk KW
        generalize evens f k = E at *
        generalize odds f k = O at *
        generalize f k = x at *
        obtain ⟨v', w3, hr3, ho3, hg3, hm3⟩ := AM.out
        have R3 := hide hr3
        have N3 := hide (HR.out.grow ho3 hg3 hm3)
        have B3 : Hide (Below w1.heap.size w1 w3) := hide ((HBEL.out.alloc SZ _).grown hg3 (by simp; omega) (fun k hk => (LT.out k hk).1))
        clear hr3 ho3 hg3 hm3 AM HR LT
        go_wp2_with (at_builtin; refine Lib.wpList_append_run _ rfl _ _ _ _ rfl _ _ rfl rfl _ _ R3.out ?_)
        go_roundw
        case rel => exact ⟨k + 1, _, _, rfl, rfl, by go_num, HC.out, by rw [EV.out, OD.out]; exact N3.out, B3.out⟩
        case measure => have := HC.out; simp [intOf]; omega
      · have hm : ((k : Int)).tmod 2 = 1 := by rw [Int.tmod_eq_emod_of_nonneg (by omega)]; omega
        have EV : Hide (evens f (k + 1) = evens f k) := hide (by obtain ⟨j, rfl⟩ : ∃ j, k = 2 * j + 1 := ⟨k / 2, by omega⟩; exact evens_odd f j)
        have OD : Hide (odds f (k + 1) = odds f k ++ [f k]) := hide (by obtain ⟨j, rfl⟩ : ∃ j, k = 2 * j + 1 := ⟨k / 2, by omega⟩; exact odds_odd f j)
        have AM := hide (append_moved (wr.alloc (.cells #[.int .u64 (f k : Int)] 23)) w1.heap.size vo (odds f k) (hrows.2.1.alloc _) 51 ⟨wr.heap.size, 0, none⟩ (f k) (cell_of (alloc_at rfl)) LO (by simp; omega))
        have HR := hide (hrows.alloc (.cells #[.int .u64 (f k : Int)] 23))
        have LT := hide (hrows.2.1.lt)
        clear LE LO hp hrows c0 hk KW
        generalize evens f k = E at *
        generalize odds f k = O at *
        generalize f k = x at *
        obtain ⟨v', w3, hr3, ho3, hg3, hm3⟩ := AM.out
        have R3 := hide hr3
        have N3 := hide ((HR.out.swap.grow ho3 hg3 hm3).swap)
        have B3 : Hide (Below w1.heap.size w1 w3) := hide ((HBEL.out.alloc SZ _).grown hg3 (by simp; omega) (fun k hk => (LT.out k hk).1))
        clear hr3 ho3 hg3 hm3 AM HR LT
        go_wp2_with (at_builtin; refine Lib.wpList_append_run _ rfl _ _ _ _ rfl _ _ rfl rfl _ _ R3.out ?_)
        go_roundw
        case rel => exact ⟨k + 1, _, _, rfl, rfl, by go_num, HC.out, by rw [EV.out, OD.out]; exact N3.out, B3.out⟩
        case measure => have := HC.out; simp [intOf]; omega
    · obtain rfl : k = N := by omega
      subst hN
      obtain ⟨g1, c1, g2, c2, rfl, rfl, hE, hO⟩ := hrows.words hc (by rw [evens_length]; omega) (by rw [odds_length]; omega)
      have CK := hide (CB2.out wr g1 c1 g2 c2 HBEL.out hE hO)
      have VZ2 : Hide (VBlk wr (W.heap.size + 3) (0, 0)) := hide (VZ1.out.later HBEL.out VZ1.out.lt)
      have B2 : Hide (Below W.heap.size W wr) := hide (B1.out.trans (HBEL.out.mono B1.out.size))
      have C2 := cell_later HBEL.out C0.out (Nat.le_refl _)
      clear CB2 hrows hE hO c0 hk KW HBEL C0 VZ1 B1
      go_wp2_with fail
      refine CK.out.mono ?_
      rintro e w2 ⟨rfl, hb⟩
      have K1 : Hide (VBlk w2 (W.heap.size + 3) (0, 0)) := hide (VZ2.out.later hb VZ2.out.lt)
      have K2 : Hide (Below W.heap.size W w2) := hide (B2.out.trans (hb.mono B2.out.size))
      have g0 := K1.out.c0
      have g1 := K1.out.c1
      have z0 := K1.out.frozen 0
      have z1 := K1.out.frozen 1
      clear hb C2 CK
      go_wp2
      refine bodyPost_ret (v := .tuple #[.agg #[.int .u64 (rp : Int), .int .u64 (rq : Int)], .int .i64 re]) ((K1.out.set2 rp rq).result2 (by rfl) _ rfl rfl) rfl ?_
      exact ⟨rfl, (K2.out.setCell (by simp; try omega) _).setCell (by simp; try omega) _⟩
end Go.Proofs.YtoihfmammmkloaaDoor
/-
  vints.Times, Pairs, Dot, over what is told of Wide, Two and sums.
-/
set_option linter.unusedVariables false
set_option linter.unusedSimpArgs false
namespace Go.Proofs.YtoihfmammmkloaaDoor
open Go.RowKit Lan

set_option maxHeartbeats 4000000 in
theorem ctimes_bad (w : Int) (s h : Bool) (a b : Nat × Nat) (W : World)
    (hA : ∀ W', Below W.heap.size W W' → Calls Tryd.prog 24 #[.int .i64 w, .bool s, .bool h, vecV a] W' fun e W'' => e = .returned (vecE ((0, 0), 2)) ∧ Below W'.heap.size W' W'') :
    Calls Tryd.prog 26 #[.int .i64 w, .bool s, .bool h, vecV a, vecV b] W fun e W' => e = .returned (vecE ((0, 0), 2)) ∧ Below W.heap.size W W' := by
  obtain ⟨wa, hwa⟩ : ∃ wa, ((W.alloc (.cells #[.int .u64 (a.1 : Int), .int .u64 (a.2 : Int)] 25)).alloc (.cells #[.int .u64 (b.1 : Int), .int .u64 (b.2 : Int)] 25)).alloc (.cells #[.int .u64 0, .int .u64 0] 25) = wa := ⟨_, rfl⟩
  have B0 : Below W.heap.size W W := Below.refl _ _
  have B1 := B0.alloc B0.size (.cells #[.int .u64 (a.1 : Int), .int .u64 (a.2 : Int)] 25)
  have B2 := B1.alloc B1.size (.cells #[.int .u64 (b.1 : Int), .int .u64 (b.2 : Int)] 25)
  have B3 := B2.alloc B2.size (.cells #[.int .u64 0, .int .u64 0] 25)
  have BA : Hide (Below W.heap.size W wa) := hide (by rw [← hwa]; exact B3)
  have Va : VBlk wa W.heap.size a := by rw [← hwa]; exact alloc_past (alloc_past (alloc_at rfl))
  have VZ : Hide (VBlk wa (W.heap.size + 2) (0, 0)) := hide (by rw [← hwa]; exact alloc_at (by simp))
  have HWA := hide hwa
  clear hwa B0 B1 B2 B3
  have CA := hide (hA wa BA.out)
  clear hA
  obtain ⟨a0, a1⟩ := a
  have ac0 := Va.c0
  have ac1 := Va.c1
  clear Va
  obtain ⟨b0, b1⟩ := b
  unfold vecE at CA ⊢
  unfold vecV at *
  simp only at *
  go_enter Tryd.func26, Tryd.ntmps26
  go_wp2_with fail
  rw [HWA.out]
  go_wp2_with fail
  refine CA.out.mono ?_
  rintro e w1 ⟨rfl, hb⟩
  have K1 : Hide (VBlk (w1.alloc (.cells #[.int .u64 0, .int .u64 0] 25)) (W.heap.size + 2) (0, 0)) := hide (alloc_past (VZ.out.later hb VZ.out.lt))
  have K2 : Hide (Below W.heap.size W (w1.alloc (.cells #[.int .u64 0, .int .u64 0] 25))) := hide ((BA.out.trans (hb.mono BA.out.size)).alloc (Nat.le_trans BA.out.size hb.size) _)
  have g0 := K1.out.c0
  have g1 := K1.out.c1
  have z0 := K1.out.frozen 0
  have z1 := K1.out.frozen 1
  clear hb ac0 ac1 CA VZ BA HWA
  go_wp2
  refine bodyPost_ret (v := .tuple #[.agg #[.int .u64 0, .int .u64 0], .int .i64 2]) ((K1.out.set2 0 0).result2 (by rfl) _ rfl rfl) rfl ?_
  exact ⟨rfl, (K2.out.setCell (by simp; try omega) _).setCell (by simp; try omega) _⟩

set_option maxHeartbeats 4000000 in
theorem ctimes_walk (w w2 : Int) (s h : Bool) (a b : Nat × Nat) (x0 x1 y0 y1 rp rq : Nat) (re : Int) (hw : wrap64 (2 * w) = w2) (W : World)
    (hA : ∀ W', Below W.heap.size W W' → Calls Tryd.prog 24 #[.int .i64 w, .bool s, .bool h, vecV a] W' fun e W'' => e = .returned (vecE ((x0, x1), 0)) ∧ Below W'.heap.size W' W'')
    (hB : ∀ W', Below W.heap.size W W' → Calls Tryd.prog 24 #[.int .i64 w, .bool s, .bool h, vecV b] W' fun e W'' => e = .returned (vecE ((y0, y1), 0)) ∧ Below W'.heap.size W' W'')
    (hC : ∀ W', Below W.heap.size W W' → Calls Tryd.prog 9 #[.int .u8 3, .int .i64 w2, vecV (x0, x1), vecV (y0, y1)] W' fun e W'' => e = .returned (vecE ((rp, rq), re)) ∧ Below W'.heap.size W' W'') :
    Calls Tryd.prog 26 #[.int .i64 w, .bool s, .bool h, vecV a, vecV b] W fun e W' => e = .returned (vecE ((rp, rq), re)) ∧ Below W.heap.size W W' := by
  obtain ⟨wa, hwa⟩ : ∃ wa, ((W.alloc (.cells #[.int .u64 (a.1 : Int), .int .u64 (a.2 : Int)] 25)).alloc (.cells #[.int .u64 (b.1 : Int), .int .u64 (b.2 : Int)] 25)).alloc (.cells #[.int .u64 0, .int .u64 0] 25) = wa := ⟨_, rfl⟩
  have B0 : Below W.heap.size W W := Below.refl _ _
  have B1 := B0.alloc B0.size (.cells #[.int .u64 (a.1 : Int), .int .u64 (a.2 : Int)] 25)
  have B2 := B1.alloc B1.size (.cells #[.int .u64 (b.1 : Int), .int .u64 (b.2 : Int)] 25)
  have B3 := B2.alloc B2.size (.cells #[.int .u64 0, .int .u64 0] 25)
  have BA : Hide (Below W.heap.size W wa) := hide (by rw [← hwa]; exact B3)
  have Va : VBlk wa W.heap.size a := by rw [← hwa]; exact alloc_past (alloc_past (alloc_at rfl))
  have VB : Hide (VBlk wa (W.heap.size + 1) b) := hide (by rw [← hwa]; exact alloc_past (alloc_at (by simp)))
  have VZ : Hide (VBlk wa (W.heap.size + 2) (0, 0)) := hide (by rw [← hwa]; exact alloc_at (by simp))
  have HWA := hide hwa
  clear hwa B0 B1 B2 B3
  have CA := hide (hA wa BA.out)
  have CB := hide hB
  have CC := hide hC
  clear hA hB hC
  obtain ⟨a0, a1⟩ := a
  have ac0 := Va.c0
  have ac1 := Va.c1
  clear Va
  obtain ⟨b0, b1⟩ := b
  unfold vecE at CA CB CC ⊢
  unfold vecV at *
  simp only at *
  go_enter Tryd.func26, Tryd.ntmps26
  go_wp2_with fail
  rw [HWA.out]
  go_wp2_with fail
  refine CA.out.mono ?_
  rintro e w1 ⟨rfl, hb⟩
  obtain ⟨w2', h2⟩ : ∃ w2', w1.alloc (.cells #[.int .u64 (x0 : Int), .int .u64 (x1 : Int)] 25) = w2' := ⟨_, rfl⟩
  have KZ : Hide (VBlk w2' (W.heap.size + 2) (0, 0)) := hide (by rw [← h2]; exact alloc_past (VZ.out.later hb VZ.out.lt))
  have KB : VBlk w2' (W.heap.size + 1) (b0, b1) := by rw [← h2]; exact alloc_past (VB.out.later hb VB.out.lt)
  have KX : Hide (VBlk w2' w1.heap.size (x0, x1)) := hide (by rw [← h2]; exact alloc_at rfl)
  have K2 : Hide (Below W.heap.size W w2') := hide (by rw [← h2]; exact (BA.out.trans (hb.mono BA.out.size)).alloc (Nat.le_trans BA.out.size hb.size) _)
  have g0 := KB.c0
  have g1 := KB.c1
  rw [← h2] at g0 g1
  have H2 := hide h2
  have C2 := hide (CB.out w2' K2.out)
  clear hb ac0 ac1 CA VZ VB BA HWA KB CB h2
  go_wp2_with fail
  rw [H2.out]
  refine C2.out.mono ?_
  rintro e w3 ⟨rfl, hb⟩
  obtain ⟨w4, h4⟩ : ∃ w4, w3.alloc (.cells #[.int .u64 (y0 : Int), .int .u64 (y1 : Int)] 25) = w4 := ⟨_, rfl⟩
  have JZ : Hide (VBlk w4 (W.heap.size + 2) (0, 0)) := hide (by rw [← h4]; exact alloc_past (KZ.out.later hb KZ.out.lt))
  have JX : VBlk w4 w1.heap.size (x0, x1) := by rw [← h4]; exact alloc_past (KX.out.later hb KX.out.lt)
  have JY : VBlk w4 w3.heap.size (y0, y1) := by rw [← h4]; exact alloc_at rfl
  have J2 : Hide (Below W.heap.size W w4) := hide (by rw [← h4]; exact (K2.out.trans (hb.mono K2.out.size)).alloc (Nat.le_trans K2.out.size hb.size) _)
  have x0' := JX.c0
  have x1' := JX.c1
  have y0' := JY.c0
  have y1' := JY.c1
  rw [← h4] at x0' x1' y0' y1'
  have H4 := hide h4
  have C4 := hide (CC.out w4 J2.out)
  clear hb g0 g1 KZ KX K2 H2 C2 CC JX JY h4
  go_wp2_with fail
  rw [H4.out]
  refine C4.out.mono ?_
  rintro e w5 ⟨rfl, hb⟩
  have I1 : Hide (VBlk w5 (W.heap.size + 2) (0, 0)) := hide (JZ.out.later hb JZ.out.lt)
  have I2 : Hide (Below W.heap.size W w5) := hide (J2.out.trans (hb.mono J2.out.size))
  have g0 := I1.out.c0
  have g1 := I1.out.c1
  have z0 := I1.out.frozen 0
  have z1 := I1.out.frozen 1
  clear hb JZ J2 H4 C4 x0' x1' y0' y1'
  go_wp2
  refine bodyPost_ret (v := .tuple #[.agg #[.int .u64 (rp : Int), .int .u64 (rq : Int)], .int .i64 re]) ((I1.out.set2 rp rq).result2 (by rfl) _ rfl rfl) rfl ?_
  exact ⟨rfl, (I2.out.setCell (by simp; try omega) _).setCell (by simp; try omega) _⟩
set_option maxHeartbeats 4000000 in
theorem cpairs8_walk (s : Bool) (a : Nat × Nat) (x0 x1 y0 y1 rp rq : Nat) (re : Int) (W : World)
    (hA : ∀ W', Below W.heap.size W W' → Calls Tryd.prog 24 #[.int .i64 8, .bool s, .bool false, vecV a] W' fun e W'' => e = .returned (vecE ((x0, x1), 0)) ∧ Below W'.heap.size W' W'')
    (hB : ∀ W', Below W.heap.size W W' → Calls Tryd.prog 24 #[.int .i64 8, .bool s, .bool true, vecV a] W' fun e W'' => e = .returned (vecE ((y0, y1), 0)) ∧ Below W'.heap.size W' W'')
    (hC : ∀ W', Below W.heap.size W W' → Calls Tryd.prog 63 #[.int .i64 16, vecV (x0, x1), vecV (y0, y1)] W' fun e W'' => e = .returned (vecE ((rp, rq), re)) ∧ Below W'.heap.size W' W'') :
    Calls Tryd.prog 28 #[.int .i64 8, .bool s, vecV a] W fun e W' => e = .returned (vecE ((rp, rq), re)) ∧ Below W.heap.size W W' := by
  obtain ⟨wa, hwa⟩ : ∃ wa, (W.alloc (.cells #[.int .u64 (a.1 : Int), .int .u64 (a.2 : Int)] 25)).alloc (.cells #[.int .u64 0, .int .u64 0] 25) = wa := ⟨_, rfl⟩
  have B0 : Below W.heap.size W W := Below.refl _ _
  have B1 := B0.alloc B0.size (.cells #[.int .u64 (a.1 : Int), .int .u64 (a.2 : Int)] 25)
  have B2 := B1.alloc B1.size (.cells #[.int .u64 0, .int .u64 0] 25)
  have BA : Hide (Below W.heap.size W wa) := hide (by rw [← hwa]; exact B2)
  have VB : Hide (VBlk wa W.heap.size a) := hide (by rw [← hwa]; exact alloc_past (alloc_at rfl))
  have Va := VB.out
  have VZ : Hide (VBlk wa (W.heap.size + 1) (0, 0)) := hide (by rw [← hwa]; exact alloc_at (by simp))
  have HWA := hide hwa
  clear hwa B0 B1 B2
  have CA := hide (hA wa BA.out)
  have CB := hide hB
  have CC := hide hC
  clear hA hB hC
  obtain ⟨a0, a1⟩ := a
  have ac0 := Va.c0
  have ac1 := Va.c1
  clear Va
  unfold vecE at CA CB CC ⊢
  unfold vecV at *
  simp only at *
  go_enter Tryd.func28, Tryd.ntmps28
  go_wp2_with fail
  rw [HWA.out]
  go_wp2_with fail
  refine CA.out.mono ?_
  rintro e w1 ⟨rfl, hb⟩
  obtain ⟨w2', h2⟩ : ∃ w2', w1.alloc (.cells #[.int .u64 (x0 : Int), .int .u64 (x1 : Int)] 25) = w2' := ⟨_, rfl⟩
  have KZ : Hide (VBlk w2' (W.heap.size + 1) (0, 0)) := hide (by rw [← h2]; exact alloc_past (VZ.out.later hb VZ.out.lt))
  have KB : VBlk w2' W.heap.size (a0, a1) := by rw [← h2]; exact alloc_past (VB.out.later hb VB.out.lt)
  have KX : Hide (VBlk w2' w1.heap.size (x0, x1)) := hide (by rw [← h2]; exact alloc_at rfl)
  have K2 : Hide (Below W.heap.size W w2') := hide (by rw [← h2]; exact (BA.out.trans (hb.mono BA.out.size)).alloc (Nat.le_trans BA.out.size hb.size) _)
  have g0 := KB.c0
  have g1 := KB.c1
  rw [← h2] at g0 g1
  have H2 := hide h2
  have C2 := hide (CB.out w2' K2.out)
  clear hb ac0 ac1 CA VZ VB BA HWA KB CB h2
  go_wp2_with fail
  rw [H2.out]
  refine C2.out.mono ?_
  rintro e w3 ⟨rfl, hb⟩
  obtain ⟨w4, h4⟩ : ∃ w4, w3.alloc (.cells #[.int .u64 (y0 : Int), .int .u64 (y1 : Int)] 25) = w4 := ⟨_, rfl⟩
  have JZ : Hide (VBlk w4 (W.heap.size + 1) (0, 0)) := hide (by rw [← h4]; exact alloc_past (KZ.out.later hb KZ.out.lt))
  have JX : VBlk w4 w1.heap.size (x0, x1) := by rw [← h4]; exact alloc_past (KX.out.later hb KX.out.lt)
  have JY : VBlk w4 w3.heap.size (y0, y1) := by rw [← h4]; exact alloc_at rfl
  have J2 : Hide (Below W.heap.size W w4) := hide (by rw [← h4]; exact (K2.out.trans (hb.mono K2.out.size)).alloc (Nat.le_trans K2.out.size hb.size) _)
  have x0' := JX.c0
  have x1' := JX.c1
  have y0' := JY.c0
  have y1' := JY.c1
  rw [← h4] at x0' x1' y0' y1'
  have H4 := hide h4
  have C4 := hide (CC.out w4 J2.out)
  clear hb g0 g1 KZ KX K2 H2 C2 CC JX JY h4
  go_wp2_with fail
  rw [H4.out]
  refine C4.out.mono ?_
  rintro e w5 ⟨rfl, hb⟩
  have I1 : Hide (VBlk w5 (W.heap.size + 1) (0, 0)) := hide (JZ.out.later hb JZ.out.lt)
  have I2 : Hide (Below W.heap.size W w5) := hide (J2.out.trans (hb.mono J2.out.size))
  have g0 := I1.out.c0
  have g1 := I1.out.c1
  have z0 := I1.out.frozen 0
  have z1 := I1.out.frozen 1
  clear hb JZ J2 H4 C4 x0' x1' y0' y1'
  go_wp2
  refine bodyPost_ret (v := .tuple #[.agg #[.int .u64 (rp : Int), .int .u64 (rq : Int)], .int .i64 re]) ((I1.out.set2 rp rq).result2 (by rfl) _ rfl rfl) rfl ?_
  exact ⟨rfl, (I2.out.setCell (by simp; try omega) _).setCell (by simp; try omega) _⟩
set_option maxHeartbeats 4000000 in
theorem cpairs16_walk (s : Bool) (a : Nat × Nat) (x0 x1 y0 y1 rp rq : Nat) (re : Int) (W : World)
    (hA : ∀ W', Below W.heap.size W W' → Calls Tryd.prog 24 #[.int .i64 16, .bool s, .bool false, vecV a] W' fun e W'' => e = .returned (vecE ((x0, x1), 0)) ∧ Below W'.heap.size W' W'')
    (hB : ∀ W', Below W.heap.size W W' → Calls Tryd.prog 24 #[.int .i64 16, .bool s, .bool true, vecV a] W' fun e W'' => e = .returned (vecE ((y0, y1), 0)) ∧ Below W'.heap.size W' W'')
    (hC : ∀ W', Below W.heap.size W W' → Calls Tryd.prog 63 #[.int .i64 32, vecV (x0, x1), vecV (y0, y1)] W' fun e W'' => e = .returned (vecE ((rp, rq), re)) ∧ Below W'.heap.size W' W'') :
    Calls Tryd.prog 28 #[.int .i64 16, .bool s, vecV a] W fun e W' => e = .returned (vecE ((rp, rq), re)) ∧ Below W.heap.size W W' := by
  obtain ⟨wa, hwa⟩ : ∃ wa, (W.alloc (.cells #[.int .u64 (a.1 : Int), .int .u64 (a.2 : Int)] 25)).alloc (.cells #[.int .u64 0, .int .u64 0] 25) = wa := ⟨_, rfl⟩
  have B0 : Below W.heap.size W W := Below.refl _ _
  have B1 := B0.alloc B0.size (.cells #[.int .u64 (a.1 : Int), .int .u64 (a.2 : Int)] 25)
  have B2 := B1.alloc B1.size (.cells #[.int .u64 0, .int .u64 0] 25)
  have BA : Hide (Below W.heap.size W wa) := hide (by rw [← hwa]; exact B2)
  have VB : Hide (VBlk wa W.heap.size a) := hide (by rw [← hwa]; exact alloc_past (alloc_at rfl))
  have Va := VB.out
  have VZ : Hide (VBlk wa (W.heap.size + 1) (0, 0)) := hide (by rw [← hwa]; exact alloc_at (by simp))
  have HWA := hide hwa
  clear hwa B0 B1 B2
  have CA := hide (hA wa BA.out)
  have CB := hide hB
  have CC := hide hC
  clear hA hB hC
  obtain ⟨a0, a1⟩ := a
  have ac0 := Va.c0
  have ac1 := Va.c1
  clear Va
  unfold vecE at CA CB CC ⊢
  unfold vecV at *
  simp only at *
  go_enter Tryd.func28, Tryd.ntmps28
  go_wp2_with fail
  rw [HWA.out]
  go_wp2_with fail
  refine CA.out.mono ?_
  rintro e w1 ⟨rfl, hb⟩
  obtain ⟨w2', h2⟩ : ∃ w2', w1.alloc (.cells #[.int .u64 (x0 : Int), .int .u64 (x1 : Int)] 25) = w2' := ⟨_, rfl⟩
  have KZ : Hide (VBlk w2' (W.heap.size + 1) (0, 0)) := hide (by rw [← h2]; exact alloc_past (VZ.out.later hb VZ.out.lt))
  have KB : VBlk w2' W.heap.size (a0, a1) := by rw [← h2]; exact alloc_past (VB.out.later hb VB.out.lt)
  have KX : Hide (VBlk w2' w1.heap.size (x0, x1)) := hide (by rw [← h2]; exact alloc_at rfl)
  have K2 : Hide (Below W.heap.size W w2') := hide (by rw [← h2]; exact (BA.out.trans (hb.mono BA.out.size)).alloc (Nat.le_trans BA.out.size hb.size) _)
  have g0 := KB.c0
  have g1 := KB.c1
  rw [← h2] at g0 g1
  have H2 := hide h2
  have C2 := hide (CB.out w2' K2.out)
  clear hb ac0 ac1 CA VZ VB BA HWA KB CB h2
  go_wp2_with fail
  rw [H2.out]
  refine C2.out.mono ?_
  rintro e w3 ⟨rfl, hb⟩
  obtain ⟨w4, h4⟩ : ∃ w4, w3.alloc (.cells #[.int .u64 (y0 : Int), .int .u64 (y1 : Int)] 25) = w4 := ⟨_, rfl⟩
  have JZ : Hide (VBlk w4 (W.heap.size + 1) (0, 0)) := hide (by rw [← h4]; exact alloc_past (KZ.out.later hb KZ.out.lt))
  have JX : VBlk w4 w1.heap.size (x0, x1) := by rw [← h4]; exact alloc_past (KX.out.later hb KX.out.lt)
  have JY : VBlk w4 w3.heap.size (y0, y1) := by rw [← h4]; exact alloc_at rfl
  have J2 : Hide (Below W.heap.size W w4) := hide (by rw [← h4]; exact (K2.out.trans (hb.mono K2.out.size)).alloc (Nat.le_trans K2.out.size hb.size) _)
  have x0' := JX.c0
  have x1' := JX.c1
  have y0' := JY.c0
  have y1' := JY.c1
  rw [← h4] at x0' x1' y0' y1'
  have H4 := hide h4
  have C4 := hide (CC.out w4 J2.out)
  clear hb g0 g1 KZ KX K2 H2 C2 CC JX JY h4
  go_wp2_with fail
  rw [H4.out]
  refine C4.out.mono ?_
  rintro e w5 ⟨rfl, hb⟩
  have I1 : Hide (VBlk w5 (W.heap.size + 1) (0, 0)) := hide (JZ.out.later hb JZ.out.lt)
  have I2 : Hide (Below W.heap.size W w5) := hide (J2.out.trans (hb.mono J2.out.size))
  have g0 := I1.out.c0
  have g1 := I1.out.c1
  have z0 := I1.out.frozen 0
  have z1 := I1.out.frozen 1
  clear hb JZ J2 H4 C4 x0' x1' y0' y1'
  go_wp2
  refine bodyPost_ret (v := .tuple #[.agg #[.int .u64 (rp : Int), .int .u64 (rq : Int)], .int .i64 re]) ((I1.out.set2 rp rq).result2 (by rfl) _ rfl rfl) rfl ?_
  exact ⟨rfl, (I2.out.setCell (by simp; try omega) _).setCell (by simp; try omega) _⟩
set_option maxHeartbeats 4000000 in
theorem cdot_walk (a b : Nat × Nat) (x0 x1 y0 y1 rp rq : Nat) (re : Int) (W : World)
    (hA : ∀ W', Below W.heap.size W W' → Calls Tryd.prog 26 #[.int .i64 16, .bool true, .bool false, vecV a, vecV b] W' fun e W'' => e = .returned (vecE ((x0, x1), 0)) ∧ Below W'.heap.size W' W'')
    (hB : ∀ W', Below W.heap.size W W' → Calls Tryd.prog 26 #[.int .i64 16, .bool true, .bool true, vecV a, vecV b] W' fun e W'' => e = .returned (vecE ((y0, y1), 0)) ∧ Below W'.heap.size W' W'')
    (hC : ∀ W', Below W.heap.size W W' → Calls Tryd.prog 63 #[.int .i64 32, vecV (x0, x1), vecV (y0, y1)] W' fun e W'' => e = .returned (vecE ((rp, rq), re)) ∧ Below W'.heap.size W' W'') :
    Calls Tryd.prog 30 #[vecV a, vecV b] W fun e W' => e = .returned (vecE ((rp, rq), re)) ∧ Below W.heap.size W W' := by
  obtain ⟨wa, hwa⟩ : ∃ wa, ((W.alloc (.cells #[.int .u64 (a.1 : Int), .int .u64 (a.2 : Int)] 25)).alloc (.cells #[.int .u64 (b.1 : Int), .int .u64 (b.2 : Int)] 25)).alloc (.cells #[.int .u64 0, .int .u64 0] 25) = wa := ⟨_, rfl⟩
  have B0 : Below W.heap.size W W := Below.refl _ _
  have B1 := B0.alloc B0.size (.cells #[.int .u64 (a.1 : Int), .int .u64 (a.2 : Int)] 25)
  have B2 := B1.alloc B1.size (.cells #[.int .u64 (b.1 : Int), .int .u64 (b.2 : Int)] 25)
  have B3 := B2.alloc B2.size (.cells #[.int .u64 0, .int .u64 0] 25)
  have BA : Hide (Below W.heap.size W wa) := hide (by rw [← hwa]; exact B3)
  have VA : Hide (VBlk wa W.heap.size a) := hide (by rw [← hwa]; exact alloc_past (alloc_past (alloc_at rfl)))
  have VB : Hide (VBlk wa (W.heap.size + 1) b) := hide (by rw [← hwa]; exact alloc_past (alloc_at (by simp)))
  have VZ : Hide (VBlk wa (W.heap.size + 2) (0, 0)) := hide (by rw [← hwa]; exact alloc_at (by simp))
  have HWA := hide hwa
  clear hwa B0 B1 B2 B3
  have CA := hide (hA wa BA.out)
  have CB := hide hB
  have CC := hide hC
  clear hA hB hC
  obtain ⟨a0, a1⟩ := a
  obtain ⟨b0, b1⟩ := b
  have ac0 := VA.out.c0
  have ac1 := VA.out.c1
  have bc0 := VB.out.c0
  have bc1 := VB.out.c1
  unfold vecE at CA CB CC ⊢
  unfold vecV at *
  simp only at *
  go_enter Tryd.func30, Tryd.ntmps30
  go_wp2_with fail
  rw [HWA.out]
  go_wp2_with fail
  refine CA.out.mono ?_
  rintro e w1 ⟨rfl, hb⟩
  obtain ⟨w2', h2⟩ : ∃ w2', w1.alloc (.cells #[.int .u64 (x0 : Int), .int .u64 (x1 : Int)] 25) = w2' := ⟨_, rfl⟩
  have KZ : Hide (VBlk w2' (W.heap.size + 2) (0, 0)) := hide (by rw [← h2]; exact alloc_past (VZ.out.later hb VZ.out.lt))
  have KA : VBlk w2' W.heap.size (a0, a1) := by rw [← h2]; exact alloc_past (VA.out.later hb VA.out.lt)
  have KB : VBlk w2' (W.heap.size + 1) (b0, b1) := by rw [← h2]; exact alloc_past (VB.out.later hb VB.out.lt)
  have KX : Hide (VBlk w2' w1.heap.size (x0, x1)) := hide (by rw [← h2]; exact alloc_at rfl)
  have K2 : Hide (Below W.heap.size W w2') := hide (by rw [← h2]; exact (BA.out.trans (hb.mono BA.out.size)).alloc (Nat.le_trans BA.out.size hb.size) _)
  have g0 := KB.c0
  have g1 := KB.c1
  have f0 := KA.c0
  have f1 := KA.c1
  rw [← h2] at g0 g1 f0 f1
  have H2 := hide h2
  have C2 := hide (CB.out w2' K2.out)
  clear hb ac0 ac1 bc0 bc1 CA VZ VA VB BA HWA KA KB CB h2
  go_wp2_with fail
  rw [H2.out]
  refine C2.out.mono ?_
  rintro e w3 ⟨rfl, hb⟩
  obtain ⟨w4, h4⟩ : ∃ w4, w3.alloc (.cells #[.int .u64 (y0 : Int), .int .u64 (y1 : Int)] 25) = w4 := ⟨_, rfl⟩
  have JZ : Hide (VBlk w4 (W.heap.size + 2) (0, 0)) := hide (by rw [← h4]; exact alloc_past (KZ.out.later hb KZ.out.lt))
  have JX : VBlk w4 w1.heap.size (x0, x1) := by rw [← h4]; exact alloc_past (KX.out.later hb KX.out.lt)
  have JY : VBlk w4 w3.heap.size (y0, y1) := by rw [← h4]; exact alloc_at rfl
  have J2 : Hide (Below W.heap.size W w4) := hide (by rw [← h4]; exact (K2.out.trans (hb.mono K2.out.size)).alloc (Nat.le_trans K2.out.size hb.size) _)
  have x0' := JX.c0
  have x1' := JX.c1
  have y0' := JY.c0
  have y1' := JY.c1
  rw [← h4] at x0' x1' y0' y1'
  have H4 := hide h4
  have C4 := hide (CC.out w4 J2.out)
  clear hb g0 g1 f0 f1 KZ KX K2 H2 C2 CC JX JY h4
  go_wp2_with fail
  rw [H4.out]
  refine C4.out.mono ?_
  rintro e w5 ⟨rfl, hb⟩
  have I1 : Hide (VBlk w5 (W.heap.size + 2) (0, 0)) := hide (JZ.out.later hb JZ.out.lt)
  have I2 : Hide (Below W.heap.size W w5) := hide (J2.out.trans (hb.mono J2.out.size))
  have g0 := I1.out.c0
  have g1 := I1.out.c1
  have z0 := I1.out.frozen 0
  have z1 := I1.out.frozen 1
  clear hb JZ J2 H4 C4 x0' x1' y0' y1'
  go_wp2
  refine bodyPost_ret (v := .tuple #[.agg #[.int .u64 (rp : Int), .int .u64 (rq : Int)], .int .i64 re]) ((I1.out.set2 rp rq).result2 (by rfl) _ rfl rfl) rfl ?_
  exact ⟨rfl, (I2.out.setCell (by simp; try omega) _).setCell (by simp; try omega) _⟩

set_option maxHeartbeats 4000000 in
theorem cpairs_refuse (w : Int) (s : Bool) (a : Nat × Nat) (h8 : (w != 8) = true) (h16 : (w != 16) = true) (W : World) :
    Calls Tryd.prog 28 #[.int .i64 w, .bool s, vecV a] W fun e W' => e = .returned (vecE ((0, 0), 2)) ∧ Below W.heap.size W W' := by
  obtain ⟨wa, hwa⟩ : ∃ wa, (W.alloc (.cells #[.int .u64 (a.1 : Int), .int .u64 (a.2 : Int)] 25)).alloc (.cells #[.int .u64 0, .int .u64 0] 25) = wa := ⟨_, rfl⟩
  have B0 : Below W.heap.size W W := Below.refl _ _
  have B1 := B0.alloc B0.size (.cells #[.int .u64 (a.1 : Int), .int .u64 (a.2 : Int)] 25)
  have B2 := B1.alloc B1.size (.cells #[.int .u64 0, .int .u64 0] 25)
  have BA : Hide (Below W.heap.size W wa) := hide (by rw [← hwa]; exact B2)
  have VZ : Hide (VBlk wa (W.heap.size + 1) (0, 0)) := hide (by rw [← hwa]; exact alloc_at (by simp))
  have HWA := hide hwa
  clear hwa B0 B1 B2
  obtain ⟨a0, a1⟩ := a
  unfold vecE
  unfold vecV at *
  simp only at *
  have g0 := VZ.out.c0
  have g1 := VZ.out.c1
  have z0 := VZ.out.frozen 0
  have z1 := VZ.out.frozen 1
  go_enter Tryd.func28, Tryd.ntmps28
  go_wp2_with fail
  rw [HWA.out]
  refine bodyPost_ret (v := .tuple #[.agg #[.int .u64 0, .int .u64 0], .int .i64 2]) (VZ.out.result2 (by rfl) _ rfl rfl) rfl ?_
  exact ⟨rfl, BA.out⟩
end Go.Proofs.YtoihfmammmkloaaDoor
