/-
  VinRNar, VinRWide, VinRTimes, VinRPairs, VinRDot, VinRefs2.
-/
import Derived.Test.YtoihfmammmkloaaDoorPkRef
import Derived.StillTailTactics
import Derived.Test.YtoihfmammmkloaaDoorPkInts
import Derived.Test.YtoihfmammmkloaaDoorPkVinA
import Derived.Test.YtoihfmammmkloaaDoorPkThan
/-
  The document's Narrow of lanes.
-/
set_option linter.unusedVariables false
set_option linter.unusedSimpArgs false
namespace Go.Proofs.YtoihfmammmkloaaDoor
open Go.RowKit Lan

/-- Two rows of c, one behind the other. -/
def joinF (c : Nat) (f g : Nat → Nat) (i : Nat) : Nat := if i < c then f i else g (i - c)
theorem join_append (c : Nat) (f g : Nat → Nat) : (List.range c).map f ++ (List.range c).map g = (List.range (c + c)).map (joinF c f g) := by
  apply List.ext_getElem
  · simp
  · intro j h1 h2
    simp only [List.getElem_append, List.getElem_map, List.getElem_range, List.length_map, List.length_range, joinF]
    split <;> rfl
theorem OwnW.later {w w' : World} {b : Nat} {v : Value} {l : List Nat} (h : OwnW w b v l) (hb : Below w.heap.size w w') : OwnW w' b v l := by
  unfold OwnW at *
  obtain ⟨h1, h2 | ⟨g, cap, cur, e, hg, hblk, h3⟩⟩ := h
  · exact ⟨h1, .inl h2⟩
  · exact ⟨h1, .inr ⟨g, cap, cur, e, hg, (hb.block g (Array.getElem?_eq_some_iff.1 hblk).1).trans hblk, h3⟩⟩

set_option maxHeartbeats 8000000 in
theorem rvn_16 (s : Bool) (a0 a1 b0 b1 p q : Nat) (fa fb f : Nat → Nat)
    (CA : Hide (∀ W : World, Calls Tryd.prog 38 #[vecV (a0, a1), .int .i64 16] W fun e W' => ListOwn W ((List.range 8).map fa) e W'))
    (CB : Hide (∀ W : World, Calls Tryd.prog 38 #[vecV (b0, b1), .int .i64 16] W fun e W' => ListOwn W ((List.range 8).map fb) e W'))
    (CT : Hide (∀ i, i < 16 → ∀ W : World, Calls Tryd.prog 58 #[.int .i64 16, .int .i64 8, .bool s, .int .u64 (joinF 8 fa fb i : Int)] W fun e W' => e = .returned (.tuple #[.int .u64 (f i : Int), .int .i64 0]) ∧ W' = W))
    (CV : Hide (∀ (W : World) (g cap : Nat), XBlk W g 16 ((List.range 16).map f) → Calls Tryd.prog 40 #[.int .i64 8, .slice (some ⟨g, 0, none⟩) 16 cap] W fun e W' => e = .returned (vecV (p, q)) ∧ Below W.heap.size W W'))
    (W : World) :
    Calls Tryd.prog 23 #[.int .i64 16, .bool s, vecV (a0, a1), vecV (b0, b1)] W fun e W' => e = .returned (vecE ((p, q), 0)) ∧ Below W.heap.size W W' := by
  obtain ⟨i0, hi, hz0, hz1, hz2⟩ := info_parts infoW
  obtain ⟨wa, hwa⟩ : ∃ wa, ((W.alloc (.cells #[.int .u64 (a0 : Int), .int .u64 (a1 : Int)] 25)).alloc (.cells #[.int .u64 (b0 : Int), .int .u64 (b1 : Int)] 25)).alloc (.cells #[.int .u64 0, .int .u64 0] 25) = wa := ⟨_, rfl⟩
  have VB : Hide (VBlk wa (W.heap.size + 1) (b0, b1)) := hide (by rw [← hwa]; exact alloc_past (alloc_at (by simp)))
  have ZB : Hide (VBlk wa (W.heap.size + 1 + 1) (0, 0)) := hide (by rw [← hwa]; exact alloc_at (by simp))
  have BA : Hide (Below W.heap.size W wa) := hide (by rw [← hwa]; exact (((Below.refl _ _).alloc (Nat.le_refl _) _).alloc (by simp) _).alloc (by simp; omega) _)
  have HWA := hide hwa
  clear hwa
  unfold vecV at CA CB CV ⊢
  simp only at CA CB CV ⊢
  go_enter Tryd.func23, Tryd.ntmps23
  go_wp2_with fail
  rw [HWA.out]
  refine (CA.out _).mono ?_
  rintro e w1 ⟨v1, rfl, ho, hb⟩
  have O1 := hide ho
  have B1 := hide hb
  have h0 := (VB.out.later hb VB.out.lt).c0
  have h1 := (VB.out.later hb VB.out.lt).c1
  simp only at h0 h1
  clear ho hb
  go_wp2_with fail
  refine (CB.out _).mono ?_
  rintro e w2 ⟨v2, rfl, ho, hb⟩
  have O2 := hide (O1.out.later hb)
  obtain ⟨g2, cap2, cur2, hg2, hv2, hcap2, hblk2, hcell2⟩ := own_post ho (by simp)
  have X2 : Hide (XBlk w2 g2 8 ((List.range 8).map fb)) := hide ⟨cur2, hblk2, by simpa using hcell2⟩
  have B2 := hide (B1.out.trans (hb.mono B1.out.size))
  simp only [List.length_map, List.length_range] at hv2
  subst hv2
  obtain ⟨va, vc, hva⟩ := own_shape O2.out
  simp only [List.length_map, List.length_range] at hva
  subst hva
  have hown := O2.out
  unfold OwnW at hown
  simp only [List.length_map, List.length_range] at hown
  have HN : Hide (∀ (j : Nat) (u : Value), (((List.range 8).map fb).map fun n : Nat => Value.int .u64 (n : Int))[j]? = some u → w2.cell? ((⟨g2, 0, none⟩ : Addr).add j) = some u) := hide (fun j u hj => by
    have hj' : j < 8 := by
      have := (List.getElem?_eq_some_iff.1 hj).1
      simpa using this
    have hx := X2.out.cell j hj'
    rw [List.getElem?_map] at hj
    simp only [List.getElem?_map, List.getElem?_range hj', Option.map_some, Option.some.injEq] at hj
    have e : at0 ((List.range 8).map fb) j = fb j := by simp [at0, List.getElem?_range hj']
    rw [e] at hx
    subst hj
    by_cases h0 : j = 0
    · subst h0; simpa [Addr.add] using hx
    · simpa [Addr.add, h0] using hx)
  have ONE : Hide (∀ u ∈ (((List.range 8).map fb).map fun n : Nat => Value.int .u64 (n : Int)), u.oneCell' = true) := hide (by
    intro u hu
    obtain ⟨n, _, rfl⟩ := List.mem_map.1 hu
    rfl)
  have C3 : Hid (8 + 8 ≤ maxLen) := by show 8 + 8 ≤ maxLen; unfold maxLen; omega
  have C4 : Hid ((8 + 8) * 8 ≤ 140737488355328) := by show (8 + 8) * 8 ≤ 140737488355328; omega
  have C5 : Hid (wa.heap.size ≤ w2.heap.size) := B2.out.size
  have LEN : Hide ((((List.range 8).map fb).map fun n : Nat => Value.int .u64 (n : Int)).length = 8 * 1) := hide (by simp)
  clear ho hb hg2 hcap2 hblk2 hcell2 h0 h1 O1 O2
  go_wp2_with (at_builtin; refine wpList_append_own _ rfl _ _ 51 rfl wa.heap.size 23 i0 (.int .u64 0) 1 8 Tryd.underlying51 hi hz0 hz1 hz2 rfl (by decide) _ _ _ rfl hown ⟨g2, 0, none⟩ 8 cap2 (((List.range 8).map fb).map fun n : Nat => Value.int .u64 (n : Int)) rfl LEN.out HN.out ONE.out C3.out C4.out C5.out ?_)
  intro v' w3 hown' hgrow _
  have ho3 : OwnW w3 wa.heap.size v' ((List.range 16).map (joinF 8 fa fb)) := by
    unfold OwnW
    rw [← join_append 8 fa fb, List.length_append, List.length_map, List.length_map, List.length_range, List.map_append]
    exact hown'
  have hb3 : Below wa.heap.size wa w3 := B2.out.grown hgrow B2.out.size (fun k hk => (hown.lt k hk).1)
  obtain ⟨g1, cap1, cur1, hg1, hv1, hcap1, hblk1, hcell1⟩ := own_post ho3 (by simp)
  have X1 : Hide (XBlk w3 g1 16 ((List.range 16).map (joinF 8 fa fb))) := hide ⟨cur1, hblk1, by simpa using hcell1⟩
  simp only [List.length_map, List.length_range] at hv1
  subst hv1
  have ZW := hide (ZB.out.later hb3 ZB.out.lt)
  have BW := hide (BA.out.trans (hb3.mono BA.out.size))
  have S0 : Hide (OnAt W (W.heap.size + 1 + 1) g1 16 (mixC 16 f (joinF 8 fa fb) 0) w3) := hide ⟨ZW.out, by rw [mix_zero]; exact X1.out, BW.out⟩
  have HG : Hide (W.heap.size + 1 + 1 < g1) := hide (by have := ZB.out.lt; omega)
  clear hown hown' hgrow ho3 hb3 hg1 hcap1 hblk1 hcell1 X1 X2 ZW BW VB ZB BA HWA CA CB HN ONE LEN B1 B2
  go_wp2_with fail
  go_loopw [12] (fun x wr => ∃ k : Nat, x = .int .i64 (k : Int) ∧ k ≤ 16 ∧ OnAt W (W.heap.size + 1 + 1) g1 16 (mixC 16 f (joinF 8 fa fb) k) wr) (fun x _ => 16 - (intOf x).toNat)
  case atStart => exact ⟨0, rfl, by omega, S0.out⟩
  case round =>
    obtain ⟨k, rfl, hk, hr⟩ := hrel
    have H := hide hr
    clear hr S0
    by_cases c0 : k < 16
    · have c1 : (k : Int) < 16 := by omega
      have hA : wr.cell? ⟨g1, k, none⟩ = some (.int .u64 (joinF 8 fa fb k : Int)) := by
        have := H.out.2.1.cell k c0
        rwa [mix_at 16 f (joinF 8 fa fb) k k c0, if_neg (by omega)] at this
      have hz : wr.frozen? ⟨g1, k, none⟩ = false := H.out.2.1.frozen k
      have ST := hide (mix_set 16 f (joinF 8 fa fb) k c0)
      have CK := hide (CT.out k c0)
      have HC := hide c0
      clear CT c0
      generalize joinF 8 fa fb k = xa at *
      generalize f k = y at *
      go_wp2_with ((with_reducible refine (CK.out _).mono ?_); rintro e w0 ⟨rfl, rfl⟩)
      go_roundw
      case rel => exact ⟨k + 1, by go_num, HC.out, by rw [← ST.out]; exact H.out.put (mix_length _ _ _ _) k y HC.out (by have := HG.out; omega) (by have := HG.out; omega)⟩
      case measure => have := HC.out; simp [intOf]; omega
    · obtain rfl : k = 16 := by omega
      rw [mix_all] at H
      have CK := hide (fun cap => CV.out wr g1 cap H.out.2.1)
      clear CT CV c0
      go_wp2_with fail
      refine (CK.out _).mono ?_
      rintro e w4 ⟨rfl, hb⟩
      have H2 := hide (H.out.later hb)
      have z := H2.out.1
      have r0 : w4.cell? ⟨W.heap.size + 1 + 1, 0, none⟩ = some (.int .u64 0) := z.c0
      have r1 : w4.cell? ⟨W.heap.size + 1 + 1, 1, none⟩ = some (.int .u64 0) := z.c1
      have z0 : w4.frozen? ⟨W.heap.size + 1 + 1, 0, none⟩ = false := z.frozen 0
      have z1 : w4.frozen? ⟨W.heap.size + 1 + 1, 1, none⟩ = false := z.frozen 1
      clear z
      clear hb H
      go_wp2
      refine bodyPost_ret (v := vecE ((p, q), 0)) ((H2.out.1.set2 p q).result2 (by rfl) _ rfl rfl) rfl ?_
      exact ⟨rfl, (H2.out.2.2.setCell (by simp; omega) _).setCell (by simp; omega) _⟩

set_option maxHeartbeats 8000000 in
theorem rvn_32 (s : Bool) (a0 a1 b0 b1 p q : Nat) (fa fb f : Nat → Nat)
    (CA : Hide (∀ W : World, Calls Tryd.prog 38 #[vecV (a0, a1), .int .i64 32] W fun e W' => ListOwn W ((List.range 4).map fa) e W'))
    (CB : Hide (∀ W : World, Calls Tryd.prog 38 #[vecV (b0, b1), .int .i64 32] W fun e W' => ListOwn W ((List.range 4).map fb) e W'))
    (CT : Hide (∀ i, i < 8 → ∀ W : World, Calls Tryd.prog 58 #[.int .i64 32, .int .i64 16, .bool s, .int .u64 (joinF 4 fa fb i : Int)] W fun e W' => e = .returned (.tuple #[.int .u64 (f i : Int), .int .i64 0]) ∧ W' = W))
    (CV : Hide (∀ (W : World) (g cap : Nat), XBlk W g 8 ((List.range 8).map f) → Calls Tryd.prog 40 #[.int .i64 16, .slice (some ⟨g, 0, none⟩) 8 cap] W fun e W' => e = .returned (vecV (p, q)) ∧ Below W.heap.size W W'))
    (W : World) :
    Calls Tryd.prog 23 #[.int .i64 32, .bool s, vecV (a0, a1), vecV (b0, b1)] W fun e W' => e = .returned (vecE ((p, q), 0)) ∧ Below W.heap.size W W' := by
  obtain ⟨i0, hi, hz0, hz1, hz2⟩ := info_parts infoW
  obtain ⟨wa, hwa⟩ : ∃ wa, ((W.alloc (.cells #[.int .u64 (a0 : Int), .int .u64 (a1 : Int)] 25)).alloc (.cells #[.int .u64 (b0 : Int), .int .u64 (b1 : Int)] 25)).alloc (.cells #[.int .u64 0, .int .u64 0] 25) = wa := ⟨_, rfl⟩
  have VB : Hide (VBlk wa (W.heap.size + 1) (b0, b1)) := hide (by rw [← hwa]; exact alloc_past (alloc_at (by simp)))
  have ZB : Hide (VBlk wa (W.heap.size + 1 + 1) (0, 0)) := hide (by rw [← hwa]; exact alloc_at (by simp))
  have BA : Hide (Below W.heap.size W wa) := hide (by rw [← hwa]; exact (((Below.refl _ _).alloc (Nat.le_refl _) _).alloc (by simp) _).alloc (by simp; omega) _)
  have HWA := hide hwa
  clear hwa
  unfold vecV at CA CB CV ⊢
  simp only at CA CB CV ⊢
  go_enter Tryd.func23, Tryd.ntmps23
  go_wp2_with fail
  rw [HWA.out]
  refine (CA.out _).mono ?_
  rintro e w1 ⟨v1, rfl, ho, hb⟩
  have O1 := hide ho
  have B1 := hide hb
  have h0 := (VB.out.later hb VB.out.lt).c0
  have h1 := (VB.out.later hb VB.out.lt).c1
  simp only at h0 h1
  clear ho hb
  go_wp2_with fail
  refine (CB.out _).mono ?_
  rintro e w2 ⟨v2, rfl, ho, hb⟩
  have O2 := hide (O1.out.later hb)
  obtain ⟨g2, cap2, cur2, hg2, hv2, hcap2, hblk2, hcell2⟩ := own_post ho (by simp)
  have X2 : Hide (XBlk w2 g2 4 ((List.range 4).map fb)) := hide ⟨cur2, hblk2, by simpa using hcell2⟩
  have B2 := hide (B1.out.trans (hb.mono B1.out.size))
  simp only [List.length_map, List.length_range] at hv2
  subst hv2
  obtain ⟨va, vc, hva⟩ := own_shape O2.out
  simp only [List.length_map, List.length_range] at hva
  subst hva
  have hown := O2.out
  unfold OwnW at hown
  simp only [List.length_map, List.length_range] at hown
  have HN : Hide (∀ (j : Nat) (u : Value), (((List.range 4).map fb).map fun n : Nat => Value.int .u64 (n : Int))[j]? = some u → w2.cell? ((⟨g2, 0, none⟩ : Addr).add j) = some u) := hide (fun j u hj => by
    have hj' : j < 4 := by
      have := (List.getElem?_eq_some_iff.1 hj).1
      simpa using this
    have hx := X2.out.cell j hj'
    rw [List.getElem?_map] at hj
    simp only [List.getElem?_map, List.getElem?_range hj', Option.map_some, Option.some.injEq] at hj
    have e : at0 ((List.range 4).map fb) j = fb j := by simp [at0, List.getElem?_range hj']
    rw [e] at hx
    subst hj
    by_cases h0 : j = 0
    · subst h0; simpa [Addr.add] using hx
    · simpa [Addr.add, h0] using hx)
  have ONE : Hide (∀ u ∈ (((List.range 4).map fb).map fun n : Nat => Value.int .u64 (n : Int)), u.oneCell' = true) := hide (by
    intro u hu
    obtain ⟨n, _, rfl⟩ := List.mem_map.1 hu
    rfl)
  have C3 : Hid (4 + 4 ≤ maxLen) := by show 4 + 4 ≤ maxLen; unfold maxLen; omega
  have C4 : Hid ((4 + 4) * 8 ≤ 140737488355328) := by show (4 + 4) * 8 ≤ 140737488355328; omega
  have C5 : Hid (wa.heap.size ≤ w2.heap.size) := B2.out.size
  have LEN : Hide ((((List.range 4).map fb).map fun n : Nat => Value.int .u64 (n : Int)).length = 4 * 1) := hide (by simp)
  clear ho hb hg2 hcap2 hblk2 hcell2 h0 h1 O1 O2
  go_wp2_with (at_builtin; refine wpList_append_own _ rfl _ _ 51 rfl wa.heap.size 23 i0 (.int .u64 0) 1 8 Tryd.underlying51 hi hz0 hz1 hz2 rfl (by decide) _ _ _ rfl hown ⟨g2, 0, none⟩ 4 cap2 (((List.range 4).map fb).map fun n : Nat => Value.int .u64 (n : Int)) rfl LEN.out HN.out ONE.out C3.out C4.out C5.out ?_)
  intro v' w3 hown' hgrow _
  have ho3 : OwnW w3 wa.heap.size v' ((List.range 8).map (joinF 4 fa fb)) := by
    unfold OwnW
    rw [← join_append 4 fa fb, List.length_append, List.length_map, List.length_map, List.length_range, List.map_append]
    exact hown'
  have hb3 : Below wa.heap.size wa w3 := B2.out.grown hgrow B2.out.size (fun k hk => (hown.lt k hk).1)
  obtain ⟨g1, cap1, cur1, hg1, hv1, hcap1, hblk1, hcell1⟩ := own_post ho3 (by simp)
  have X1 : Hide (XBlk w3 g1 8 ((List.range 8).map (joinF 4 fa fb))) := hide ⟨cur1, hblk1, by simpa using hcell1⟩
  simp only [List.length_map, List.length_range] at hv1
  subst hv1
  have ZW := hide (ZB.out.later hb3 ZB.out.lt)
  have BW := hide (BA.out.trans (hb3.mono BA.out.size))
  have S0 : Hide (OnAt W (W.heap.size + 1 + 1) g1 8 (mixC 8 f (joinF 4 fa fb) 0) w3) := hide ⟨ZW.out, by rw [mix_zero]; exact X1.out, BW.out⟩
  have HG : Hide (W.heap.size + 1 + 1 < g1) := hide (by have := ZB.out.lt; omega)
  clear hown hown' hgrow ho3 hb3 hg1 hcap1 hblk1 hcell1 X1 X2 ZW BW VB ZB BA HWA CA CB HN ONE LEN B1 B2
  go_wp2_with fail
  go_loopw [12] (fun x wr => ∃ k : Nat, x = .int .i64 (k : Int) ∧ k ≤ 8 ∧ OnAt W (W.heap.size + 1 + 1) g1 8 (mixC 8 f (joinF 4 fa fb) k) wr) (fun x _ => 8 - (intOf x).toNat)
  case atStart => exact ⟨0, rfl, by omega, S0.out⟩
  case round =>
    obtain ⟨k, rfl, hk, hr⟩ := hrel
    have H := hide hr
    clear hr S0
    by_cases c0 : k < 8
    · have c1 : (k : Int) < 8 := by omega
      have hA : wr.cell? ⟨g1, k, none⟩ = some (.int .u64 (joinF 4 fa fb k : Int)) := by
        have := H.out.2.1.cell k c0
        rwa [mix_at 8 f (joinF 4 fa fb) k k c0, if_neg (by omega)] at this
      have hz : wr.frozen? ⟨g1, k, none⟩ = false := H.out.2.1.frozen k
      have ST := hide (mix_set 8 f (joinF 4 fa fb) k c0)
      have CK := hide (CT.out k c0)
      have HC := hide c0
      clear CT c0
      generalize joinF 4 fa fb k = xa at *
      generalize f k = y at *
      go_wp2_with ((with_reducible refine (CK.out _).mono ?_); rintro e w0 ⟨rfl, rfl⟩)
      go_roundw
      case rel => exact ⟨k + 1, by go_num, HC.out, by rw [← ST.out]; exact H.out.put (mix_length _ _ _ _) k y HC.out (by have := HG.out; omega) (by have := HG.out; omega)⟩
      case measure => have := HC.out; simp [intOf]; omega
    · obtain rfl : k = 8 := by omega
      rw [mix_all] at H
      have CK := hide (fun cap => CV.out wr g1 cap H.out.2.1)
      clear CT CV c0
      go_wp2_with fail
      refine (CK.out _).mono ?_
      rintro e w4 ⟨rfl, hb⟩
      have H2 := hide (H.out.later hb)
      have z := H2.out.1
      have r0 : w4.cell? ⟨W.heap.size + 1 + 1, 0, none⟩ = some (.int .u64 0) := z.c0
      have r1 : w4.cell? ⟨W.heap.size + 1 + 1, 1, none⟩ = some (.int .u64 0) := z.c1
      have z0 : w4.frozen? ⟨W.heap.size + 1 + 1, 0, none⟩ = false := z.frozen 0
      have z1 : w4.frozen? ⟨W.heap.size + 1 + 1, 1, none⟩ = false := z.frozen 1
      clear z
      clear hb H
      go_wp2
      refine bodyPost_ret (v := vecE ((p, q), 0)) ((H2.out.1.set2 p q).result2 (by rfl) _ rfl rfl) rfl ?_
      exact ⟨rfl, (H2.out.2.2.setCell (by simp; omega) _).setCell (by simp; omega) _⟩

set_option maxHeartbeats 2000000 in
theorem rvn_bad (w : Int) (s : Bool) (n16 : (w != 16) = true) (n32 : (w != 32) = true) (a b : Nat × Nat) (W : World) :
    Calls Tryd.prog 23 #[.int .i64 w, .bool s, vecV a, vecV b] W fun e W' => e = .returned (vecE ((0, 0), 2)) ∧ Below W.heap.size W W' := by
  unfold vecV
  go_enter Tryd.func23, Tryd.ntmps23
  go_wp2
  refine bodyPost_ret (v := vecE ((0, 0), 2)) (VBlk.result2 (v := (0, 0)) (alloc_at (g := W.heap.size + 1 + 1) (by simp)) (by rfl) _ rfl rfl) rfl ?_
  exact ⟨rfl, (((Below.refl _ _).alloc (Nat.le_refl _) _).alloc (by simp) _).alloc (by simp; omega) _⟩
end Go.Proofs.YtoihfmammmkloaaDoor
/-
  The document's wide.
-/
set_option linter.unusedVariables false
set_option linter.unusedSimpArgs false
namespace Go.Proofs.YtoihfmammmkloaaDoor
open Go.RowKit Lan

set_option maxHeartbeats 8000000 in
theorem rww_8_lo (s : Bool) (a0 a1 : Nat) (fa f : Nat → Nat)
    (CA : Hide (∀ W : World, Calls Tryd.prog 38 #[vecV (a0, a1), .int .i64 8] W fun e W' => ListPost W 16 ((List.range 16).map fa) e W'))
    (CT : Hide (∀ i, i < 8 → ∀ W : World, Calls Tryd.prog 64 #[.int .i64 8, .int .i64 16, .bool s, .int .u64 (fa (i) : Int)] W fun e W' => e = .returned (.tuple #[.int .u64 (f i : Int), .int .i64 0]) ∧ W' = W))
    (W : World) :
    Calls Tryd.prog 62 #[.int .i64 8, .bool s, .bool false, vecV (a0, a1)] W fun e W' => ListOwn W (pre f 8) e W' := by
  obtain ⟨i0, hi, hz0, hz1, hz2⟩ := info_parts infoW
  have HB := hide (below_two W (.cells #[.int .u64 (a0 : Int), .int .u64 (a1 : Int)] 25))
  unfold vecV at CA ⊢
  simp only at CA ⊢
  go_enter Tryd.func62, Tryd.ntmps62
  go_wp2_with fail
  refine (CA.out _).mono ?_
  rintro e w1 hpost
  obtain ⟨g1, cap1, hg1, rfl, hcap, hx, hb⟩ := list_x hpost
  have KX := hide hx
  have B1 := hide (HB.out.trans (hb.mono HB.out.size))
  clear hx hb hpost hg1 hcap HB CA
  go_wp2_with fail
  go_loopw [10, 11] (fun v x wr => ∃ k : Nat, x = .int .i64 (k : Int) ∧ k ≤ 8 ∧ OwnW wr w1.heap.size v (pre f k) ∧ Below w1.heap.size w1 wr) (fun _ x _ => 8 - (intOf x).toNat)
  case atStart => exact ⟨0, rfl, by omega, World.ownsRow_nil _ _ _ _, Below.refl _ _⟩
  case round =>
    obtain ⟨k, rfl, hk, hown0, hbel⟩ := hrel
    have HBEL := hide hbel
    have HOWN := hide hown0
    clear hown0 hbel
    by_cases c0 : k < 8
    · have c1 : (k : Int) < 8 := by omega
      obtain ⟨va, vc, hva⟩ := own_shape HOWN.out
      rw [pre_length] at hva
      have hown := HOWN.out
      rw [hva] at hown ⊢
      unfold OwnW at hown
      rw [pre_length] at hown
      obtain ⟨j, hj⟩ : ∃ j, k = j := ⟨_, rfl⟩
      have hjI : (j : Int) = (k : Int) := by omega
      have hA : wr.cell? ⟨g1, j, none⟩ = some (.int .u64 (fa j : Int)) := by
        have := (KX.out.later HBEL.out KX.out.lt).cell j (by omega)
        rwa [show at0 ((List.range 16).map fa) j = fa j by simp [at0, List.getElem?_range (show j < 16 by omega)]] at this
      have C3 : Hid (k + 1 ≤ maxLen) := by show k + 1 ≤ maxLen; unfold maxLen; omega
      have C4 : Hid ((k + 1) * 8 ≤ 140737488355328) := by show (k + 1) * 8 ≤ 140737488355328; omega
      have C5 : Hid (∀ o : Obj, w1.heap.size ≤ (wr.alloc o).heap.size) := by intro o; have := HBEL.out.size; simp; omega
      have PS := hide (pre_succ f k)
      have CK := hide (CT.out k c0)
      have HC := hide c0
      have EJ : wrap64 ((k : Int) + 8) = (k : Int) + 8 := by unfold wrap64; omega
      rw [hj] at CK
      subst hj
      skip
      clear hva CT c0 hjI
      generalize fa k = xa at *
      obtain ⟨y, hy⟩ : ∃ y, f k = y := ⟨_, rfl⟩
      rw [hy] at CK PS
      clear hy
      go_wp2_with (first | ((with_reducible refine (CK.out _).mono ?_); rintro e w0 ⟨rfl, hww⟩; replace hww := hww.symm; subst hww) | (at_builtin; refine wpList_append_own _ rfl _ _ 51 rfl w1.heap.size 23 i0 (.int .u64 0) 1 8 Tryd.underlying51 hi hz0 hz1 hz2 rfl (by decide) _ _ _ rfl (hown.alloc _) ⟨wr.heap.size, 0, none⟩ 1 1 [.int .u64 (y : Int)] rfl rfl (cell_one_new _ _ _) (one_cell64 _) C3.out C4.out (C5.out _) ?_))
      intro v' w3 hown' hgrow _
      have hown2 : OwnW w3 w1.heap.size v' (pre f (k + 1)) := by
        unfold OwnW
        rw [PS.out]; simpa [pre_length] using hown'
      have hbel2 : Below w1.heap.size w1 w3 := (HBEL.out.alloc HBEL.out.size _).grown hgrow (by have := HBEL.out.size; simp; omega) (fun k hk => (hown.lt k hk).1)
      have H2 := hide hown2
      have H3 := hide hbel2
      clear hown2 hbel2 hown' hgrow hown
      go_wp2
      go_roundw
      case rel => exact ⟨k + 1, by go_num, HC.out, H2.out, H3.out⟩
      case measure => have := HC.out; simp [intOf]; omega
    · obtain rfl : k = 8 := by omega
      go_wp2
      go_ret
      exact ⟨_, rfl, HOWN.out.mono B1.out.size, B1.out.trans (HBEL.out.mono B1.out.size)⟩

set_option maxHeartbeats 8000000 in
theorem rww_8_hi (s : Bool) (a0 a1 : Nat) (fa f : Nat → Nat)
    (CA : Hide (∀ W : World, Calls Tryd.prog 38 #[vecV (a0, a1), .int .i64 8] W fun e W' => ListPost W 16 ((List.range 16).map fa) e W'))
    (CT : Hide (∀ i, i < 8 → ∀ W : World, Calls Tryd.prog 64 #[.int .i64 8, .int .i64 16, .bool s, .int .u64 (fa (i + 8) : Int)] W fun e W' => e = .returned (.tuple #[.int .u64 (f i : Int), .int .i64 0]) ∧ W' = W))
    (W : World) :
    Calls Tryd.prog 62 #[.int .i64 8, .bool s, .bool true, vecV (a0, a1)] W fun e W' => ListOwn W (pre f 8) e W' := by
  obtain ⟨i0, hi, hz0, hz1, hz2⟩ := info_parts infoW
  have HB := hide (below_two W (.cells #[.int .u64 (a0 : Int), .int .u64 (a1 : Int)] 25))
  unfold vecV at CA ⊢
  simp only at CA ⊢
  go_enter Tryd.func62, Tryd.ntmps62
  go_wp2_with fail
  refine (CA.out _).mono ?_
  rintro e w1 hpost
  obtain ⟨g1, cap1, hg1, rfl, hcap, hx, hb⟩ := list_x hpost
  have KX := hide hx
  have B1 := hide (HB.out.trans (hb.mono HB.out.size))
  clear hx hb hpost hg1 hcap HB CA
  go_wp2_with fail
  go_loopw [10, 11] (fun v x wr => ∃ k : Nat, x = .int .i64 (k : Int) ∧ k ≤ 8 ∧ OwnW wr w1.heap.size v (pre f k) ∧ Below w1.heap.size w1 wr) (fun _ x _ => 8 - (intOf x).toNat)
  case atStart => exact ⟨0, rfl, by omega, World.ownsRow_nil _ _ _ _, Below.refl _ _⟩
  case round =>
    obtain ⟨k, rfl, hk, hown0, hbel⟩ := hrel
    have HBEL := hide hbel
    have HOWN := hide hown0
    clear hown0 hbel
    by_cases c0 : k < 8
    · have c1 : (k : Int) < 8 := by omega
      obtain ⟨va, vc, hva⟩ := own_shape HOWN.out
      rw [pre_length] at hva
      have hown := HOWN.out
      rw [hva] at hown ⊢
      unfold OwnW at hown
      rw [pre_length] at hown
      obtain ⟨j, hj⟩ : ∃ j, k + 8 = j := ⟨_, rfl⟩
      have hjI : (j : Int) = (k : Int) + 8 := by omega
      have hA : wr.cell? ⟨g1, j, none⟩ = some (.int .u64 (fa j : Int)) := by
        have := (KX.out.later HBEL.out KX.out.lt).cell j (by omega)
        rwa [show at0 ((List.range 16).map fa) j = fa j by simp [at0, List.getElem?_range (show j < 16 by omega)]] at this
      have C3 : Hid (k + 1 ≤ maxLen) := by show k + 1 ≤ maxLen; unfold maxLen; omega
      have C4 : Hid ((k + 1) * 8 ≤ 140737488355328) := by show (k + 1) * 8 ≤ 140737488355328; omega
      have C5 : Hid (∀ o : Obj, w1.heap.size ≤ (wr.alloc o).heap.size) := by intro o; have := HBEL.out.size; simp; omega
      have PS := hide (pre_succ f k)
      have CK := hide (CT.out k c0)
      have HC := hide c0
      have EJ : wrap64 ((k : Int) + 8) = (k : Int) + 8 := by unfold wrap64; omega
      rw [hj] at CK
      have hj2 : (k : Int) + 8 = (j : Int) := by omega
      have hj16 : (j : Int) < 16 := by omega
      clear hva CT c0 hj hjI
      generalize fa j = xa at *
      obtain ⟨y, hy⟩ : ∃ y, f k = y := ⟨_, rfl⟩
      rw [hy] at CK PS
      clear hy
      go_wp2_with (first | ((with_reducible refine (CK.out _).mono ?_); rintro e w0 ⟨rfl, hww⟩; replace hww := hww.symm; subst hww) | (at_builtin; refine wpList_append_own _ rfl _ _ 51 rfl w1.heap.size 23 i0 (.int .u64 0) 1 8 Tryd.underlying51 hi hz0 hz1 hz2 rfl (by decide) _ _ _ rfl (hown.alloc _) ⟨wr.heap.size, 0, none⟩ 1 1 [.int .u64 (y : Int)] rfl rfl (cell_one_new _ _ _) (one_cell64 _) C3.out C4.out (C5.out _) ?_))
      intro v' w3 hown' hgrow _
      have hown2 : OwnW w3 w1.heap.size v' (pre f (k + 1)) := by
        unfold OwnW
        rw [PS.out]; simpa [pre_length] using hown'
      have hbel2 : Below w1.heap.size w1 w3 := (HBEL.out.alloc HBEL.out.size _).grown hgrow (by have := HBEL.out.size; simp; omega) (fun k hk => (hown.lt k hk).1)
      have H2 := hide hown2
      have H3 := hide hbel2
      clear hown2 hbel2 hown' hgrow hown
      go_wp2
      go_roundw
      case rel => exact ⟨k + 1, by go_num, HC.out, H2.out, H3.out⟩
      case measure => have := HC.out; simp [intOf]; omega
    · obtain rfl : k = 8 := by omega
      go_wp2
      go_ret
      exact ⟨_, rfl, HOWN.out.mono B1.out.size, B1.out.trans (HBEL.out.mono B1.out.size)⟩

set_option maxHeartbeats 8000000 in
theorem rww_16_lo (s : Bool) (a0 a1 : Nat) (fa f : Nat → Nat)
    (CA : Hide (∀ W : World, Calls Tryd.prog 38 #[vecV (a0, a1), .int .i64 16] W fun e W' => ListPost W 8 ((List.range 8).map fa) e W'))
    (CT : Hide (∀ i, i < 4 → ∀ W : World, Calls Tryd.prog 64 #[.int .i64 16, .int .i64 32, .bool s, .int .u64 (fa (i) : Int)] W fun e W' => e = .returned (.tuple #[.int .u64 (f i : Int), .int .i64 0]) ∧ W' = W))
    (W : World) :
    Calls Tryd.prog 62 #[.int .i64 16, .bool s, .bool false, vecV (a0, a1)] W fun e W' => ListOwn W (pre f 4) e W' := by
  obtain ⟨i0, hi, hz0, hz1, hz2⟩ := info_parts infoW
  have HB := hide (below_two W (.cells #[.int .u64 (a0 : Int), .int .u64 (a1 : Int)] 25))
  unfold vecV at CA ⊢
  simp only at CA ⊢
  go_enter Tryd.func62, Tryd.ntmps62
  go_wp2_with fail
  refine (CA.out _).mono ?_
  rintro e w1 hpost
  obtain ⟨g1, cap1, hg1, rfl, hcap, hx, hb⟩ := list_x hpost
  have KX := hide hx
  have B1 := hide (HB.out.trans (hb.mono HB.out.size))
  clear hx hb hpost hg1 hcap HB CA
  go_wp2_with fail
  go_loopw [10, 11] (fun v x wr => ∃ k : Nat, x = .int .i64 (k : Int) ∧ k ≤ 4 ∧ OwnW wr w1.heap.size v (pre f k) ∧ Below w1.heap.size w1 wr) (fun _ x _ => 4 - (intOf x).toNat)
  case atStart => exact ⟨0, rfl, by omega, World.ownsRow_nil _ _ _ _, Below.refl _ _⟩
  case round =>
    obtain ⟨k, rfl, hk, hown0, hbel⟩ := hrel
    have HBEL := hide hbel
    have HOWN := hide hown0
    clear hown0 hbel
    by_cases c0 : k < 4
    · have c1 : (k : Int) < 4 := by omega
      obtain ⟨va, vc, hva⟩ := own_shape HOWN.out
      rw [pre_length] at hva
      have hown := HOWN.out
      rw [hva] at hown ⊢
      unfold OwnW at hown
      rw [pre_length] at hown
      obtain ⟨j, hj⟩ : ∃ j, k = j := ⟨_, rfl⟩
      have hjI : (j : Int) = (k : Int) := by omega
      have hA : wr.cell? ⟨g1, j, none⟩ = some (.int .u64 (fa j : Int)) := by
        have := (KX.out.later HBEL.out KX.out.lt).cell j (by omega)
        rwa [show at0 ((List.range 8).map fa) j = fa j by simp [at0, List.getElem?_range (show j < 8 by omega)]] at this
      have C3 : Hid (k + 1 ≤ maxLen) := by show k + 1 ≤ maxLen; unfold maxLen; omega
      have C4 : Hid ((k + 1) * 8 ≤ 140737488355328) := by show (k + 1) * 8 ≤ 140737488355328; omega
      have C5 : Hid (∀ o : Obj, w1.heap.size ≤ (wr.alloc o).heap.size) := by intro o; have := HBEL.out.size; simp; omega
      have PS := hide (pre_succ f k)
      have CK := hide (CT.out k c0)
      have HC := hide c0
      have EJ : wrap64 ((k : Int) + 4) = (k : Int) + 4 := by unfold wrap64; omega
      rw [hj] at CK
      subst hj
      skip
      clear hva CT c0 hjI
      generalize fa k = xa at *
      obtain ⟨y, hy⟩ : ∃ y, f k = y := ⟨_, rfl⟩
      rw [hy] at CK PS
      clear hy
      go_wp2_with (first | ((with_reducible refine (CK.out _).mono ?_); rintro e w0 ⟨rfl, hww⟩; replace hww := hww.symm; subst hww) | (at_builtin; refine wpList_append_own _ rfl _ _ 51 rfl w1.heap.size 23 i0 (.int .u64 0) 1 8 Tryd.underlying51 hi hz0 hz1 hz2 rfl (by decide) _ _ _ rfl (hown.alloc _) ⟨wr.heap.size, 0, none⟩ 1 1 [.int .u64 (y : Int)] rfl rfl (cell_one_new _ _ _) (one_cell64 _) C3.out C4.out (C5.out _) ?_))
      intro v' w3 hown' hgrow _
      have hown2 : OwnW w3 w1.heap.size v' (pre f (k + 1)) := by
        unfold OwnW
        rw [PS.out]; simpa [pre_length] using hown'
      have hbel2 : Below w1.heap.size w1 w3 := (HBEL.out.alloc HBEL.out.size _).grown hgrow (by have := HBEL.out.size; simp; omega) (fun k hk => (hown.lt k hk).1)
      have H2 := hide hown2
      have H3 := hide hbel2
      clear hown2 hbel2 hown' hgrow hown
      go_wp2
      go_roundw
      case rel => exact ⟨k + 1, by go_num, HC.out, H2.out, H3.out⟩
      case measure => have := HC.out; simp [intOf]; omega
    · obtain rfl : k = 4 := by omega
      go_wp2
      go_ret
      exact ⟨_, rfl, HOWN.out.mono B1.out.size, B1.out.trans (HBEL.out.mono B1.out.size)⟩

set_option maxHeartbeats 8000000 in
theorem rww_16_hi (s : Bool) (a0 a1 : Nat) (fa f : Nat → Nat)
    (CA : Hide (∀ W : World, Calls Tryd.prog 38 #[vecV (a0, a1), .int .i64 16] W fun e W' => ListPost W 8 ((List.range 8).map fa) e W'))
    (CT : Hide (∀ i, i < 4 → ∀ W : World, Calls Tryd.prog 64 #[.int .i64 16, .int .i64 32, .bool s, .int .u64 (fa (i + 4) : Int)] W fun e W' => e = .returned (.tuple #[.int .u64 (f i : Int), .int .i64 0]) ∧ W' = W))
    (W : World) :
    Calls Tryd.prog 62 #[.int .i64 16, .bool s, .bool true, vecV (a0, a1)] W fun e W' => ListOwn W (pre f 4) e W' := by
  obtain ⟨i0, hi, hz0, hz1, hz2⟩ := info_parts infoW
  have HB := hide (below_two W (.cells #[.int .u64 (a0 : Int), .int .u64 (a1 : Int)] 25))
  unfold vecV at CA ⊢
  simp only at CA ⊢
  go_enter Tryd.func62, Tryd.ntmps62
  go_wp2_with fail
  refine (CA.out _).mono ?_
  rintro e w1 hpost
  obtain ⟨g1, cap1, hg1, rfl, hcap, hx, hb⟩ := list_x hpost
  have KX := hide hx
  have B1 := hide (HB.out.trans (hb.mono HB.out.size))
  clear hx hb hpost hg1 hcap HB CA
  go_wp2_with fail
  go_loopw [10, 11] (fun v x wr => ∃ k : Nat, x = .int .i64 (k : Int) ∧ k ≤ 4 ∧ OwnW wr w1.heap.size v (pre f k) ∧ Below w1.heap.size w1 wr) (fun _ x _ => 4 - (intOf x).toNat)
  case atStart => exact ⟨0, rfl, by omega, World.ownsRow_nil _ _ _ _, Below.refl _ _⟩
  case round =>
    obtain ⟨k, rfl, hk, hown0, hbel⟩ := hrel
    have HBEL := hide hbel
    have HOWN := hide hown0
    clear hown0 hbel
    by_cases c0 : k < 4
    · have c1 : (k : Int) < 4 := by omega
      obtain ⟨va, vc, hva⟩ := own_shape HOWN.out
      rw [pre_length] at hva
      have hown := HOWN.out
      rw [hva] at hown ⊢
      unfold OwnW at hown
      rw [pre_length] at hown
      obtain ⟨j, hj⟩ : ∃ j, k + 4 = j := ⟨_, rfl⟩
      have hjI : (j : Int) = (k : Int) + 4 := by omega
      have hA : wr.cell? ⟨g1, j, none⟩ = some (.int .u64 (fa j : Int)) := by
        have := (KX.out.later HBEL.out KX.out.lt).cell j (by omega)
        rwa [show at0 ((List.range 8).map fa) j = fa j by simp [at0, List.getElem?_range (show j < 8 by omega)]] at this
      have C3 : Hid (k + 1 ≤ maxLen) := by show k + 1 ≤ maxLen; unfold maxLen; omega
      have C4 : Hid ((k + 1) * 8 ≤ 140737488355328) := by show (k + 1) * 8 ≤ 140737488355328; omega
      have C5 : Hid (∀ o : Obj, w1.heap.size ≤ (wr.alloc o).heap.size) := by intro o; have := HBEL.out.size; simp; omega
      have PS := hide (pre_succ f k)
      have CK := hide (CT.out k c0)
      have HC := hide c0
      have EJ : wrap64 ((k : Int) + 4) = (k : Int) + 4 := by unfold wrap64; omega
      rw [hj] at CK
      have hj2 : (k : Int) + 4 = (j : Int) := by omega
      have hj16 : (j : Int) < 8 := by omega
      clear hva CT c0 hj hjI
      generalize fa j = xa at *
      obtain ⟨y, hy⟩ : ∃ y, f k = y := ⟨_, rfl⟩
      rw [hy] at CK PS
      clear hy
      go_wp2_with (first | ((with_reducible refine (CK.out _).mono ?_); rintro e w0 ⟨rfl, hww⟩; replace hww := hww.symm; subst hww) | (at_builtin; refine wpList_append_own _ rfl _ _ 51 rfl w1.heap.size 23 i0 (.int .u64 0) 1 8 Tryd.underlying51 hi hz0 hz1 hz2 rfl (by decide) _ _ _ rfl (hown.alloc _) ⟨wr.heap.size, 0, none⟩ 1 1 [.int .u64 (y : Int)] rfl rfl (cell_one_new _ _ _) (one_cell64 _) C3.out C4.out (C5.out _) ?_))
      intro v' w3 hown' hgrow _
      have hown2 : OwnW w3 w1.heap.size v' (pre f (k + 1)) := by
        unfold OwnW
        rw [PS.out]; simpa [pre_length] using hown'
      have hbel2 : Below w1.heap.size w1 w3 := (HBEL.out.alloc HBEL.out.size _).grown hgrow (by have := HBEL.out.size; simp; omega) (fun k hk => (hown.lt k hk).1)
      have H2 := hide hown2
      have H3 := hide hbel2
      clear hown2 hbel2 hown' hgrow hown
      go_wp2
      go_roundw
      case rel => exact ⟨k + 1, by go_num, HC.out, H2.out, H3.out⟩
      case measure => have := HC.out; simp [intOf]; omega
    · obtain rfl : k = 4 := by omega
      go_wp2
      go_ret
      exact ⟨_, rfl, HOWN.out.mono B1.out.size, B1.out.trans (HBEL.out.mono B1.out.size)⟩

set_option maxHeartbeats 8000000 in
theorem rww_32_lo (s : Bool) (a0 a1 : Nat) (fa f : Nat → Nat)
    (CA : Hide (∀ W : World, Calls Tryd.prog 38 #[vecV (a0, a1), .int .i64 32] W fun e W' => ListPost W 4 ((List.range 4).map fa) e W'))
    (CT : Hide (∀ i, i < 2 → ∀ W : World, Calls Tryd.prog 64 #[.int .i64 32, .int .i64 64, .bool s, .int .u64 (fa (i) : Int)] W fun e W' => e = .returned (.tuple #[.int .u64 (f i : Int), .int .i64 0]) ∧ W' = W))
    (W : World) :
    Calls Tryd.prog 62 #[.int .i64 32, .bool s, .bool false, vecV (a0, a1)] W fun e W' => ListOwn W (pre f 2) e W' := by
  obtain ⟨i0, hi, hz0, hz1, hz2⟩ := info_parts infoW
  have HB := hide (below_two W (.cells #[.int .u64 (a0 : Int), .int .u64 (a1 : Int)] 25))
  unfold vecV at CA ⊢
  simp only at CA ⊢
  go_enter Tryd.func62, Tryd.ntmps62
  go_wp2_with fail
  refine (CA.out _).mono ?_
  rintro e w1 hpost
  obtain ⟨g1, cap1, hg1, rfl, hcap, hx, hb⟩ := list_x hpost
  have KX := hide hx
  have B1 := hide (HB.out.trans (hb.mono HB.out.size))
  clear hx hb hpost hg1 hcap HB CA
  go_wp2_with fail
  go_loopw [10, 11] (fun v x wr => ∃ k : Nat, x = .int .i64 (k : Int) ∧ k ≤ 2 ∧ OwnW wr w1.heap.size v (pre f k) ∧ Below w1.heap.size w1 wr) (fun _ x _ => 2 - (intOf x).toNat)
  case atStart => exact ⟨0, rfl, by omega, World.ownsRow_nil _ _ _ _, Below.refl _ _⟩
  case round =>
    obtain ⟨k, rfl, hk, hown0, hbel⟩ := hrel
    have HBEL := hide hbel
    have HOWN := hide hown0
    clear hown0 hbel
    by_cases c0 : k < 2
    · have c1 : (k : Int) < 2 := by omega
      obtain ⟨va, vc, hva⟩ := own_shape HOWN.out
      rw [pre_length] at hva
      have hown := HOWN.out
      rw [hva] at hown ⊢
      unfold OwnW at hown
      rw [pre_length] at hown
      obtain ⟨j, hj⟩ : ∃ j, k = j := ⟨_, rfl⟩
      have hjI : (j : Int) = (k : Int) := by omega
      have hA : wr.cell? ⟨g1, j, none⟩ = some (.int .u64 (fa j : Int)) := by
        have := (KX.out.later HBEL.out KX.out.lt).cell j (by omega)
        rwa [show at0 ((List.range 4).map fa) j = fa j by simp [at0, List.getElem?_range (show j < 4 by omega)]] at this
      have C3 : Hid (k + 1 ≤ maxLen) := by show k + 1 ≤ maxLen; unfold maxLen; omega
      have C4 : Hid ((k + 1) * 8 ≤ 140737488355328) := by show (k + 1) * 8 ≤ 140737488355328; omega
      have C5 : Hid (∀ o : Obj, w1.heap.size ≤ (wr.alloc o).heap.size) := by intro o; have := HBEL.out.size; simp; omega
      have PS := hide (pre_succ f k)
      have CK := hide (CT.out k c0)
      have HC := hide c0
      have EJ : wrap64 ((k : Int) + 2) = (k : Int) + 2 := by unfold wrap64; omega
      rw [hj] at CK
      subst hj
      skip
      clear hva CT c0 hjI
      generalize fa k = xa at *
      obtain ⟨y, hy⟩ : ∃ y, f k = y := ⟨_, rfl⟩
      rw [hy] at CK PS
      clear hy
      go_wp2_with (first | ((with_reducible refine (CK.out _).mono ?_); rintro e w0 ⟨rfl, hww⟩; replace hww := hww.symm; subst hww) | (at_builtin; refine wpList_append_own _ rfl _ _ 51 rfl w1.heap.size 23 i0 (.int .u64 0) 1 8 Tryd.underlying51 hi hz0 hz1 hz2 rfl (by decide) _ _ _ rfl (hown.alloc _) ⟨wr.heap.size, 0, none⟩ 1 1 [.int .u64 (y : Int)] rfl rfl (cell_one_new _ _ _) (one_cell64 _) C3.out C4.out (C5.out _) ?_))
      intro v' w3 hown' hgrow _
      have hown2 : OwnW w3 w1.heap.size v' (pre f (k + 1)) := by
        unfold OwnW
        rw [PS.out]; simpa [pre_length] using hown'
      have hbel2 : Below w1.heap.size w1 w3 := (HBEL.out.alloc HBEL.out.size _).grown hgrow (by have := HBEL.out.size; simp; omega) (fun k hk => (hown.lt k hk).1)
      have H2 := hide hown2
      have H3 := hide hbel2
      clear hown2 hbel2 hown' hgrow hown
      go_wp2
      go_roundw
      case rel => exact ⟨k + 1, by go_num, HC.out, H2.out, H3.out⟩
      case measure => have := HC.out; simp [intOf]; omega
    · obtain rfl : k = 2 := by omega
      go_wp2
      go_ret
      exact ⟨_, rfl, HOWN.out.mono B1.out.size, B1.out.trans (HBEL.out.mono B1.out.size)⟩

set_option maxHeartbeats 8000000 in
theorem rww_32_hi (s : Bool) (a0 a1 : Nat) (fa f : Nat → Nat)
    (CA : Hide (∀ W : World, Calls Tryd.prog 38 #[vecV (a0, a1), .int .i64 32] W fun e W' => ListPost W 4 ((List.range 4).map fa) e W'))
    (CT : Hide (∀ i, i < 2 → ∀ W : World, Calls Tryd.prog 64 #[.int .i64 32, .int .i64 64, .bool s, .int .u64 (fa (i + 2) : Int)] W fun e W' => e = .returned (.tuple #[.int .u64 (f i : Int), .int .i64 0]) ∧ W' = W))
    (W : World) :
    Calls Tryd.prog 62 #[.int .i64 32, .bool s, .bool true, vecV (a0, a1)] W fun e W' => ListOwn W (pre f 2) e W' := by
  obtain ⟨i0, hi, hz0, hz1, hz2⟩ := info_parts infoW
  have HB := hide (below_two W (.cells #[.int .u64 (a0 : Int), .int .u64 (a1 : Int)] 25))
  unfold vecV at CA ⊢
  simp only at CA ⊢
  go_enter Tryd.func62, Tryd.ntmps62
  go_wp2_with fail
  refine (CA.out _).mono ?_
  rintro e w1 hpost
  obtain ⟨g1, cap1, hg1, rfl, hcap, hx, hb⟩ := list_x hpost
  have KX := hide hx
  have B1 := hide (HB.out.trans (hb.mono HB.out.size))
  clear hx hb hpost hg1 hcap HB CA
  go_wp2_with fail
  go_loopw [10, 11] (fun v x wr => ∃ k : Nat, x = .int .i64 (k : Int) ∧ k ≤ 2 ∧ OwnW wr w1.heap.size v (pre f k) ∧ Below w1.heap.size w1 wr) (fun _ x _ => 2 - (intOf x).toNat)
  case atStart => exact ⟨0, rfl, by omega, World.ownsRow_nil _ _ _ _, Below.refl _ _⟩
  case round =>
    obtain ⟨k, rfl, hk, hown0, hbel⟩ := hrel
    have HBEL := hide hbel
    have HOWN := hide hown0
    clear hown0 hbel
    by_cases c0 : k < 2
    · have c1 : (k : Int) < 2 := by omega
      obtain ⟨va, vc, hva⟩ := own_shape HOWN.out
      rw [pre_length] at hva
      have hown := HOWN.out
      rw [hva] at hown ⊢
      unfold OwnW at hown
      rw [pre_length] at hown
      obtain ⟨j, hj⟩ : ∃ j, k + 2 = j := ⟨_, rfl⟩
      have hjI : (j : Int) = (k : Int) + 2 := by omega
      have hA : wr.cell? ⟨g1, j, none⟩ = some (.int .u64 (fa j : Int)) := by
        have := (KX.out.later HBEL.out KX.out.lt).cell j (by omega)
        rwa [show at0 ((List.range 4).map fa) j = fa j by simp [at0, List.getElem?_range (show j < 4 by omega)]] at this
      have C3 : Hid (k + 1 ≤ maxLen) := by show k + 1 ≤ maxLen; unfold maxLen; omega
      have C4 : Hid ((k + 1) * 8 ≤ 140737488355328) := by show (k + 1) * 8 ≤ 140737488355328; omega
      have C5 : Hid (∀ o : Obj, w1.heap.size ≤ (wr.alloc o).heap.size) := by intro o; have := HBEL.out.size; simp; omega
      have PS := hide (pre_succ f k)
      have CK := hide (CT.out k c0)
      have HC := hide c0
      have EJ : wrap64 ((k : Int) + 2) = (k : Int) + 2 := by unfold wrap64; omega
      rw [hj] at CK
      have hj2 : (k : Int) + 2 = (j : Int) := by omega
      have hj16 : (j : Int) < 4 := by omega
      clear hva CT c0 hj hjI
      generalize fa j = xa at *
      obtain ⟨y, hy⟩ : ∃ y, f k = y := ⟨_, rfl⟩
      rw [hy] at CK PS
      clear hy
      go_wp2_with (first | ((with_reducible refine (CK.out _).mono ?_); rintro e w0 ⟨rfl, hww⟩; replace hww := hww.symm; subst hww) | (at_builtin; refine wpList_append_own _ rfl _ _ 51 rfl w1.heap.size 23 i0 (.int .u64 0) 1 8 Tryd.underlying51 hi hz0 hz1 hz2 rfl (by decide) _ _ _ rfl (hown.alloc _) ⟨wr.heap.size, 0, none⟩ 1 1 [.int .u64 (y : Int)] rfl rfl (cell_one_new _ _ _) (one_cell64 _) C3.out C4.out (C5.out _) ?_))
      intro v' w3 hown' hgrow _
      have hown2 : OwnW w3 w1.heap.size v' (pre f (k + 1)) := by
        unfold OwnW
        rw [PS.out]; simpa [pre_length] using hown'
      have hbel2 : Below w1.heap.size w1 w3 := (HBEL.out.alloc HBEL.out.size _).grown hgrow (by have := HBEL.out.size; simp; omega) (fun k hk => (hown.lt k hk).1)
      have H2 := hide hown2
      have H3 := hide hbel2
      clear hown2 hbel2 hown' hgrow hown
      go_wp2
      go_roundw
      case rel => exact ⟨k + 1, by go_num, HC.out, H2.out, H3.out⟩
      case measure => have := HC.out; simp [intOf]; omega
    · obtain rfl : k = 2 := by omega
      go_wp2
      go_ret
      exact ⟨_, rfl, HOWN.out.mono B1.out.size, B1.out.trans (HBEL.out.mono B1.out.size)⟩

end Go.Proofs.YtoihfmammmkloaaDoor
/-
  The document's Wide and Times of lanes.
-/
set_option linter.unusedVariables false
set_option linter.unusedSimpArgs false
namespace Go.Proofs.YtoihfmammmkloaaDoor
open Go.RowKit Lan

set_option maxHeartbeats 4000000 in
theorem rvw_8 (s h : Bool) (a0 a1 p q : Nat) (f : Nat → Nat)
    (CA : Hide (∀ W : World, Calls Tryd.prog 62 #[.int .i64 8, .bool s, .bool h, vecV (a0, a1)] W fun e W' => ListPost W 8 ((List.range 8).map f) e W'))
    (CV : Hide (∀ (W : World) (g cap : Nat), XBlk W g 8 ((List.range 8).map f) → Calls Tryd.prog 40 #[.int .i64 16, .slice (some ⟨g, 0, none⟩) 8 cap] W fun e W' => e = .returned (vecV (p, q)) ∧ Below W.heap.size W W'))
    (W : World) :
    Calls Tryd.prog 25 #[.int .i64 8, .bool s, .bool h, vecV (a0, a1)] W fun e W' => e = .returned (vecE ((p, q), 0)) ∧ Below W.heap.size W W' := by
  obtain ⟨wa, hwa⟩ : ∃ wa, (W.alloc (.cells #[.int .u64 (a0 : Int), .int .u64 (a1 : Int)] 25)).alloc (.cells #[.int .u64 0, .int .u64 0] 25) = wa := ⟨_, rfl⟩
  have VA : Hide (VBlk wa W.heap.size (a0, a1)) := hide (by rw [← hwa]; exact alloc_past (alloc_at rfl))
  have ZB : Hide (VBlk wa (W.heap.size + 1) (0, 0)) := hide (by rw [← hwa]; exact alloc_at (by simp))
  have BA : Hide (Below W.heap.size W wa) := hide (by rw [← hwa]; exact ((Below.refl _ _).alloc (Nat.le_refl _) _).alloc (by simp) _)
  have HWA := hide hwa
  clear hwa
  unfold vecV at CA CV ⊢
  simp only at CA CV ⊢
  go_enter Tryd.func25, Tryd.ntmps25
  go_wp2_with fail
  rw [HWA.out]
  refine (CA.out _).mono ?_
  rintro e w1 hpost
  obtain ⟨g1, cap1, hg1, rfl, hcap, hx, hb⟩ := list_x hpost
  have CK := hide (CV.out w1 g1 cap1 hx)
  have Z1 := hide (ZB.out.later hb ZB.out.lt)
  have B1 := hide (BA.out.trans (hb.mono BA.out.size))
  clear hx hb hpost hg1 hcap CA CV
  go_wp2_with fail
  refine CK.out.mono ?_
  rintro e w2 ⟨rfl, hb⟩
  have Z2 := hide (Z1.out.later hb Z1.out.lt)
  have B2 := hide (B1.out.trans (hb.mono B1.out.size))
  have z := Z2.out
  have r0 : w2.cell? ⟨W.heap.size + 1, 0, none⟩ = some (.int .u64 0) := z.c0
  have r1 : w2.cell? ⟨W.heap.size + 1, 1, none⟩ = some (.int .u64 0) := z.c1
  have z0 : w2.frozen? ⟨W.heap.size + 1, 0, none⟩ = false := z.frozen 0
  have z1 : w2.frozen? ⟨W.heap.size + 1, 1, none⟩ = false := z.frozen 1
  clear z
  clear hb
  go_wp2
  refine bodyPost_ret (v := vecE ((p, q), 0)) ((Z2.out.set2 p q).result2 (by rfl) _ rfl rfl) rfl ?_
  exact ⟨rfl, (B2.out.setCell (by simp) _).setCell (by simp) _⟩

set_option maxHeartbeats 4000000 in
theorem rvw_16 (s h : Bool) (a0 a1 p q : Nat) (f : Nat → Nat)
    (CA : Hide (∀ W : World, Calls Tryd.prog 62 #[.int .i64 16, .bool s, .bool h, vecV (a0, a1)] W fun e W' => ListPost W 4 ((List.range 4).map f) e W'))
    (CV : Hide (∀ (W : World) (g cap : Nat), XBlk W g 4 ((List.range 4).map f) → Calls Tryd.prog 40 #[.int .i64 32, .slice (some ⟨g, 0, none⟩) 4 cap] W fun e W' => e = .returned (vecV (p, q)) ∧ Below W.heap.size W W'))
    (W : World) :
    Calls Tryd.prog 25 #[.int .i64 16, .bool s, .bool h, vecV (a0, a1)] W fun e W' => e = .returned (vecE ((p, q), 0)) ∧ Below W.heap.size W W' := by
  obtain ⟨wa, hwa⟩ : ∃ wa, (W.alloc (.cells #[.int .u64 (a0 : Int), .int .u64 (a1 : Int)] 25)).alloc (.cells #[.int .u64 0, .int .u64 0] 25) = wa := ⟨_, rfl⟩
  have VA : Hide (VBlk wa W.heap.size (a0, a1)) := hide (by rw [← hwa]; exact alloc_past (alloc_at rfl))
  have ZB : Hide (VBlk wa (W.heap.size + 1) (0, 0)) := hide (by rw [← hwa]; exact alloc_at (by simp))
  have BA : Hide (Below W.heap.size W wa) := hide (by rw [← hwa]; exact ((Below.refl _ _).alloc (Nat.le_refl _) _).alloc (by simp) _)
  have HWA := hide hwa
  clear hwa
  unfold vecV at CA CV ⊢
  simp only at CA CV ⊢
  go_enter Tryd.func25, Tryd.ntmps25
  go_wp2_with fail
  rw [HWA.out]
  refine (CA.out _).mono ?_
  rintro e w1 hpost
  obtain ⟨g1, cap1, hg1, rfl, hcap, hx, hb⟩ := list_x hpost
  have CK := hide (CV.out w1 g1 cap1 hx)
  have Z1 := hide (ZB.out.later hb ZB.out.lt)
  have B1 := hide (BA.out.trans (hb.mono BA.out.size))
  clear hx hb hpost hg1 hcap CA CV
  go_wp2_with fail
  refine CK.out.mono ?_
  rintro e w2 ⟨rfl, hb⟩
  have Z2 := hide (Z1.out.later hb Z1.out.lt)
  have B2 := hide (B1.out.trans (hb.mono B1.out.size))
  have z := Z2.out
  have r0 : w2.cell? ⟨W.heap.size + 1, 0, none⟩ = some (.int .u64 0) := z.c0
  have r1 : w2.cell? ⟨W.heap.size + 1, 1, none⟩ = some (.int .u64 0) := z.c1
  have z0 : w2.frozen? ⟨W.heap.size + 1, 0, none⟩ = false := z.frozen 0
  have z1 : w2.frozen? ⟨W.heap.size + 1, 1, none⟩ = false := z.frozen 1
  clear z
  clear hb
  go_wp2
  refine bodyPost_ret (v := vecE ((p, q), 0)) ((Z2.out.set2 p q).result2 (by rfl) _ rfl rfl) rfl ?_
  exact ⟨rfl, (B2.out.setCell (by simp) _).setCell (by simp) _⟩

set_option maxHeartbeats 4000000 in
theorem rvw_32 (s h : Bool) (a0 a1 p q : Nat) (f : Nat → Nat)
    (CA : Hide (∀ W : World, Calls Tryd.prog 62 #[.int .i64 32, .bool s, .bool h, vecV (a0, a1)] W fun e W' => ListPost W 2 ((List.range 2).map f) e W'))
    (CV : Hide (∀ (W : World) (g cap : Nat), XBlk W g 2 ((List.range 2).map f) → Calls Tryd.prog 40 #[.int .i64 64, .slice (some ⟨g, 0, none⟩) 2 cap] W fun e W' => e = .returned (vecV (p, q)) ∧ Below W.heap.size W W'))
    (W : World) :
    Calls Tryd.prog 25 #[.int .i64 32, .bool s, .bool h, vecV (a0, a1)] W fun e W' => e = .returned (vecE ((p, q), 0)) ∧ Below W.heap.size W W' := by
  obtain ⟨wa, hwa⟩ : ∃ wa, (W.alloc (.cells #[.int .u64 (a0 : Int), .int .u64 (a1 : Int)] 25)).alloc (.cells #[.int .u64 0, .int .u64 0] 25) = wa := ⟨_, rfl⟩
  have VA : Hide (VBlk wa W.heap.size (a0, a1)) := hide (by rw [← hwa]; exact alloc_past (alloc_at rfl))
  have ZB : Hide (VBlk wa (W.heap.size + 1) (0, 0)) := hide (by rw [← hwa]; exact alloc_at (by simp))
  have BA : Hide (Below W.heap.size W wa) := hide (by rw [← hwa]; exact ((Below.refl _ _).alloc (Nat.le_refl _) _).alloc (by simp) _)
  have HWA := hide hwa
  clear hwa
  unfold vecV at CA CV ⊢
  simp only at CA CV ⊢
  go_enter Tryd.func25, Tryd.ntmps25
  go_wp2_with fail
  rw [HWA.out]
  refine (CA.out _).mono ?_
  rintro e w1 hpost
  obtain ⟨g1, cap1, hg1, rfl, hcap, hx, hb⟩ := list_x hpost
  have CK := hide (CV.out w1 g1 cap1 hx)
  have Z1 := hide (ZB.out.later hb ZB.out.lt)
  have B1 := hide (BA.out.trans (hb.mono BA.out.size))
  clear hx hb hpost hg1 hcap CA CV
  go_wp2_with fail
  refine CK.out.mono ?_
  rintro e w2 ⟨rfl, hb⟩
  have Z2 := hide (Z1.out.later hb Z1.out.lt)
  have B2 := hide (B1.out.trans (hb.mono B1.out.size))
  have z := Z2.out
  have r0 : w2.cell? ⟨W.heap.size + 1, 0, none⟩ = some (.int .u64 0) := z.c0
  have r1 : w2.cell? ⟨W.heap.size + 1, 1, none⟩ = some (.int .u64 0) := z.c1
  have z0 : w2.frozen? ⟨W.heap.size + 1, 0, none⟩ = false := z.frozen 0
  have z1 : w2.frozen? ⟨W.heap.size + 1, 1, none⟩ = false := z.frozen 1
  clear z
  clear hb
  go_wp2
  refine bodyPost_ret (v := vecE ((p, q), 0)) ((Z2.out.set2 p q).result2 (by rfl) _ rfl rfl) rfl ?_
  exact ⟨rfl, (B2.out.setCell (by simp) _).setCell (by simp) _⟩

set_option maxHeartbeats 2000000 in
theorem rvw_bad (w : Int) (n8 : (w != 8) = true) (n16 : (w != 16) = true) (n32 : (w != 32) = true) (s h : Bool) (a : Nat × Nat) (W : World) :
    Calls Tryd.prog 25 #[.int .i64 w, .bool s, .bool h, vecV a] W fun e W' => e = .returned (vecE ((0, 0), 2)) ∧ Below W.heap.size W W' := by
  unfold vecV
  go_enter Tryd.func25, Tryd.ntmps25
  go_wp2
  refine bodyPost_ret (v := vecE ((0, 0), 2)) (VBlk.result2 (v := (0, 0)) (alloc_at (g := W.heap.size + 1) (by simp)) (by rfl) _ rfl rfl) rfl ?_
  exact ⟨rfl, ((Below.refl _ _).alloc (Nat.le_refl _) _).alloc (by simp) _⟩

def TimesJ (V1 V2 m0 m1 m2 : Value) (c : Nat) (A B : List Nat) (wa : World) (d : Nat → Bool) (vs : List Value) (wz : World) : Prop :=
  (d 0 = true → vs[0]?.getD undef = m0) ∧ (d 1 = true → vs[1]?.getD undef = m1) ∧ (d 2 = true → vs[2]?.getD undef = m2) ∧ (d 3 = true → vs[3]?.getD undef = V1) ∧ OwnX (d 4) (vs[4]?.getD undef) wa.heap.size c A wz ∧ (d 5 = true → vs[5]?.getD undef = m0) ∧ (d 6 = true → vs[6]?.getD undef = m1) ∧ (d 7 = true → vs[7]?.getD undef = m2) ∧ (d 8 = true → vs[8]?.getD undef = V2) ∧ OwnX (d 9) (vs[9]?.getD undef) wa.heap.size c B wz ∧ (d 10 = true → d 4 = true ∧ vs[10]?.getD undef = vs[4]?.getD undef) ∧ (d 11 = true → d 9 = true ∧ vs[11]?.getD undef = vs[9]?.getD undef) ∧ (d 4 = true → d 9 = true → blkOf (vs[4]?.getD undef) ≠ blkOf (vs[9]?.getD undef)) ∧ Below wa.heap.size wa wz

set_option maxRecDepth 100000 in
set_option maxHeartbeats 8000000 in
theorem rvx_8 (s h : Bool) (a0 a1 b0 b1 p q m : Nat) (fa fb f : Nat → Nat)
    (CA : Hide (∀ W : World, Calls Tryd.prog 62 #[.int .i64 8, .bool s, .bool h, vecV (a0, a1)] W fun e W' => ListPost W 8 ((List.range 8).map fa) e W'))
    (CB : Hide (∀ W : World, Calls Tryd.prog 62 #[.int .i64 8, .bool s, .bool h, vecV (b0, b1)] W fun e W' => ListPost W 8 ((List.range 8).map fb) e W'))
    (CM : Hide (∀ W : World, Calls Tryd.prog 50 #[.int .i64 16] W fun e W' => e = .returned (.int .u64 (m : Int)) ∧ W' = W))
    (EQ : Hide (∀ i, i < 8 → bits .and .u64 (IntKind.u64.wrap ((fa i : Int) * (fb i : Int))) (m : Int) = (f i : Int)))
    (CV : Hide (∀ (W : World) (g cap : Nat), XBlk W g 8 ((List.range 8).map f) → Calls Tryd.prog 40 #[.int .i64 16, .slice (some ⟨g, 0, none⟩) 8 cap] W fun e W' => e = .returned (vecV (p, q)) ∧ Below W.heap.size W W'))
    (W : World) :
    Calls Tryd.prog 27 #[.int .i64 8, .bool s, .bool h, vecV (a0, a1), vecV (b0, b1)] W fun e W' => e = .returned (vecE ((p, q), 0)) ∧ Below W.heap.size W W' := by
  obtain ⟨wa, hwa⟩ : ∃ wa, ((W.alloc (.cells #[.int .u64 (a0 : Int), .int .u64 (a1 : Int)] 25)).alloc (.cells #[.int .u64 (b0 : Int), .int .u64 (b1 : Int)] 25)).alloc (.cells #[.int .u64 0, .int .u64 0] 25) = wa := ⟨_, rfl⟩
  have VA : Hide (VBlk wa W.heap.size (a0, a1)) := hide (by rw [← hwa]; exact alloc_past (alloc_past (alloc_at rfl)))
  have VB : Hide (VBlk wa (W.heap.size + 1) (b0, b1)) := hide (by rw [← hwa]; exact alloc_past (alloc_at (by simp)))
  have ZB : Hide (VBlk wa (W.heap.size + 1 + 1) (0, 0)) := hide (by rw [← hwa]; exact alloc_at (by simp))
  have BA : Hide (Below W.heap.size W wa) := hide (by rw [← hwa]; exact (((Below.refl _ _).alloc (Nat.le_refl _) _).alloc (by simp) _).alloc (by simp; omega) _)
  have HWA := hide hwa
  clear hwa
  unfold vecV at CA CB CV ⊢
  simp only at CA CB CV ⊢
  go_enter Tryd.func27, Tryd.ntmps27
  go_wp2_with fail
  rw [HWA.out]
  refine wp_region_par [26, 27, 28, 29, 30, 31, 32, 33, 34, 35, 12, 13] (TimesJ (.agg #[.int .u64 (a0 : Int), .int .u64 (a1 : Int)]) (.agg #[.int .u64 (b0 : Int), .int .u64 (b1 : Int)]) (.int .i64 8) (.bool s) (.bool h) 8 ((List.range 8).map fa) ((List.range 8).map fb) wa) (by kernel_rfl) (by kernel_rfl) ?_ ?_ ?_
  · intro vs
    exact ⟨(fun h => by cases h), (fun h => by cases h), (fun h => by cases h), (fun h => by cases h), (fun h => by cases h), (fun h => by cases h), (fun h => by cases h), (fun h => by cases h), (fun h => by cases h), (fun h => by cases h), (fun h => by cases h), (fun h => by cases h), (fun h => by cases h), (Below.refl _ _).drew⟩
  · intro d vs w1 hd hl hJ
    match vs, hl with
    | [x0, x1, x2, x3, x4, x5, x6, x7, x8, x9, x10, x11], _ =>
    obtain ⟨j0, j1, j2, j3, o4, j5, j6, j7, j8, o9, a10, a11, u4_9, jb⟩ := hJ
    obtain rfl := j0 (hd 0 (by decide))
    obtain rfl := j1 (hd 1 (by decide))
    obtain rfl := j2 (hd 2 (by decide))
    obtain rfl := j3 (hd 3 (by decide))
    obtain rfl := j5 (hd 5 (by decide))
    obtain rfl := j6 (hd 6 (by decide))
    obtain rfl := j7 (hd 7 (by decide))
    obtain rfl := j8 (hd 8 (by decide))
    have e10 := (a10 (hd 10 (by decide))).2
    simp only [List.getElem?_cons_zero, List.getElem?_cons_succ, Option.getD_some] at e10
    subst e10
    have e11 := (a11 (hd 11 (by decide))).2
    simp only [List.getElem?_cons_zero, List.getElem?_cons_succ, Option.getD_some] at e11
    subst e11
    obtain ⟨g1, cap1, e4, hg1, hc1, hx1⟩ := o4 (hd 4 (by decide))
    simp only [List.getElem?_cons_zero, List.getElem?_cons_succ, Option.getD_some] at e4
    subst e4
    obtain ⟨g2, cap2, e9, hg2, hc2, hx2⟩ := o9 (hd 9 (by decide))
    simp only [List.getElem?_cons_zero, List.getElem?_cons_succ, Option.getD_some] at e9
    subst e9
    have hne : g1 ≠ g2 := u4_9 (hd 4 (by decide)) (hd 9 (by decide))
    have JB := hide jb
    have K1 := hide hx1
    have K2 := hide hx2
    clear hd hl jb j0 j1 j2 j3 o4 j5 j6 j7 j8 o9 a10 a11 u4_9 hx1 hx2
    simp only [putL, Act.put, List.setIfInBounds_toArray, List.set_cons_succ, List.set_cons_zero]
    have ZW := hide (ZB.out.later JB.out ZB.out.lt)
    have BW := hide (BA.out.trans (JB.out.mono BA.out.size))
    have S0 : Hide (TwAt W (W.heap.size + 1 + 1) g1 g2 8 (mixC 8 f fa 0) ((List.range 8).map fb) w1) := hide ⟨ZW.out, by rw [mix_zero]; exact K1.out, K2.out, BW.out⟩
    have HG : Hide (W.heap.size + 1 + 1 < g1) := hide (by have := ZB.out.lt; omega)
    have HN : Hide (g2 ≠ g1) := hide (Ne.symm hne)
    clear K1 K2 BW JB ZW VA VB ZB BA HWA CA CB hne hg1 hg2 hc1 hc2
    go_wp2_with fail
    go_loopw [14] (fun x wr => ∃ k : Nat, x = .int .i64 (k : Int) ∧ k ≤ 8 ∧ TwAt W (W.heap.size + 1 + 1) g1 g2 8 (mixC 8 f fa k) ((List.range 8).map fb) wr) (fun x _ => 8 - (intOf x).toNat)
    case atStart => exact ⟨0, rfl, by omega, S0.out⟩
    case round =>
      obtain ⟨k, rfl, hk, hr⟩ := hrel
      have H := hide hr
      clear hr S0
      by_cases c0 : k < 8
      · have c1 : (k : Int) < 8 := by omega
        have hA : wr.cell? ⟨g1, k, none⟩ = some (.int .u64 (fa k : Int)) := by
          have := H.out.2.1.cell k c0
          rwa [mix_at 8 f fa k k c0, if_neg (by omega)] at this
        have hB : wr.cell? ⟨g2, k, none⟩ = some (.int .u64 (fb k : Int)) := by
          have := H.out.2.2.1.cell k c0
          rwa [show at0 ((List.range 8).map fb) k = fb k by simp [at0, List.getElem?_range c0]] at this
        have hz : wr.frozen? ⟨g1, k, none⟩ = false := H.out.2.1.frozen k
        have ST := hide (mix_set 8 f fa k c0)
        have EK := EQ.out k c0
        have HC := hide c0
        clear EQ c0
        generalize fa k = xa at *
        generalize fb k = xb at *
        generalize f k = y at *
        go_wp2_with fail
        refine wp_region_still_tail 16 (by kernel_rfl) (by kernel_rfl) ?_
        simp only [List.take_succ_cons, List.take_zero, List.drop_succ_cons, List.drop_zero]
        iterate 13 still_step
        still_call (CM.out _)
        iterate 2 still_step
        refine wpStill_nil ?_
        go_wp2
        go_roundw
        case rel => exact ⟨k + 1, by go_num, HC.out, by rw [← ST.out]; exact (H.out.put (mix_length _ _ _ _) k y HC.out (by have := HG.out; omega) HN.out (by have := HG.out; omega)).drewN 1⟩
        case measure => have := HC.out; simp [intOf]; omega
      · obtain rfl : k = 8 := by omega
        rw [mix_all] at H
        have CK := hide (fun cap => CV.out wr g1 cap H.out.2.1)
        clear EQ CV c0
        go_wp2_with fail
        refine (CK.out _).mono ?_
        rintro e w2 ⟨rfl, hb⟩
        have H2 := hide (H.out.later hb)
        have z := H2.out.1
        have r0 : w2.cell? ⟨W.heap.size + 1 + 1, 0, none⟩ = some (.int .u64 0) := z.c0
        have r1 : w2.cell? ⟨W.heap.size + 1 + 1, 1, none⟩ = some (.int .u64 0) := z.c1
        have z0 : w2.frozen? ⟨W.heap.size + 1 + 1, 0, none⟩ = false := z.frozen 0
        have z1 : w2.frozen? ⟨W.heap.size + 1 + 1, 1, none⟩ = false := z.frozen 1
        clear z
        clear hb H
        go_wp2
        refine bodyPost_ret (v := vecE ((p, q), 0)) ((H2.out.1.set2 p q).result2 (by rfl) _ rfl rfl) rfl ?_
        exact ⟨rfl, (H2.out.2.2.2.setCell (by simp; omega) _).setCell (by simp; omega) _⟩
  · intro i o ho d vs w hl hJ hi hw
    match vs, hl with
    | [x0, x1, x2, x3, x4, x5, x6, x7, x8, x9, x10, x11], _ =>
    have hin : i < 12 := (List.getElem?_eq_some_iff.1 ho).1
    obtain ⟨j0, j1, j2, j3, o4, j5, j6, j7, j8, o9, a10, a11, u4_9, jb⟩ := hJ
    simp only [List.getElem?_cons_zero, List.getElem?_cons_succ, Option.some.injEq, Option.getD_some] at j0 j1 j2 j3 o4 j5 j6 j7 j8 o9 a10 a11 u4_9
    rcases (show i = 0 ∨ i = 1 ∨ i = 2 ∨ i = 3 ∨ i = 4 ∨ i = 5 ∨ i = 6 ∨ i = 7 ∨ i = 8 ∨ i = 9 ∨ i = 10 ∨ i = 11 by omega) with rfl | rfl | rfl | rfl | rfl | rfl | rfl | rfl | rfl | rfl | rfl | rfl
    · simp only [List.getElem?_cons_zero, List.getElem?_cons_succ, Option.some.injEq] at ho
      subst ho
      simp only [putL, Act.put, List.setIfInBounds_toArray, List.set_cons_succ, List.set_cons_zero]
      go_wp2
      exact ⟨rfl, [_, x1, x2, x3, x4, x5, x6, x7, x8, x9, x10, x11], rfl, (by simp only [putL, Act.put, List.setIfInBounds_toArray, List.set_cons_succ, List.set_cons_zero]), (fun _ => rfl), j1, j2, j3, o4, j5, j6, j7, j8, o9, a10, a11, u4_9, jb⟩
    · simp only [List.getElem?_cons_zero, List.getElem?_cons_succ, Option.some.injEq] at ho
      subst ho
      simp only [putL, Act.put, List.setIfInBounds_toArray, List.set_cons_succ, List.set_cons_zero]
      go_wp2
      exact ⟨rfl, [x0, _, x2, x3, x4, x5, x6, x7, x8, x9, x10, x11], rfl, (by simp only [putL, Act.put, List.setIfInBounds_toArray, List.set_cons_succ, List.set_cons_zero]), j0, (fun _ => rfl), j2, j3, o4, j5, j6, j7, j8, o9, a10, a11, u4_9, jb⟩
    · simp only [List.getElem?_cons_zero, List.getElem?_cons_succ, Option.some.injEq] at ho
      subst ho
      simp only [putL, Act.put, List.setIfInBounds_toArray, List.set_cons_succ, List.set_cons_zero]
      go_wp2
      exact ⟨rfl, [x0, x1, _, x3, x4, x5, x6, x7, x8, x9, x10, x11], rfl, (by simp only [putL, Act.put, List.setIfInBounds_toArray, List.set_cons_succ, List.set_cons_zero]), j0, j1, (fun _ => rfl), j3, o4, j5, j6, j7, j8, o9, a10, a11, u4_9, jb⟩
    · simp only [List.getElem?_cons_zero, List.getElem?_cons_succ, Option.some.injEq] at ho
      subst ho
      have h0 := (VA.out.later jb VA.out.lt).c0
      have h1 := (VA.out.later jb VA.out.lt).c1
      simp only [putL, Act.put, List.setIfInBounds_toArray, List.set_cons_succ, List.set_cons_zero] at h0 h1 ⊢
      go_wp2
      exact ⟨rfl, [x0, x1, x2, _, x4, x5, x6, x7, x8, x9, x10, x11], rfl, (by simp only [putL, Act.put, List.setIfInBounds_toArray, List.set_cons_succ, List.set_cons_zero]), j0, j1, j2, (fun _ => rfl), o4, j5, j6, j7, j8, o9, a10, a11, u4_9, jb⟩
    · simp only [List.getElem?_cons_zero, List.getElem?_cons_succ, Option.some.injEq] at ho
      subst ho
      obtain rfl := j0 (List.all_eq_true.1 hw 0 (by decide))
      obtain rfl := j1 (List.all_eq_true.1 hw 1 (by decide))
      obtain rfl := j2 (List.all_eq_true.1 hw 2 (by decide))
      obtain rfl := j3 (List.all_eq_true.1 hw 3 (by decide))
      simp only [putL, Act.put, List.setIfInBounds_toArray, List.set_cons_succ, List.set_cons_zero]
      go_wp2_with ((with_reducible refine (CA.out _).mono ?_); rintro e w1 hpost; obtain ⟨g, cap, hg, rfl, hcap, hx, hb⟩ := list_x hpost)
      exact ⟨rfl, [_, _, _, _, _, x5, x6, x7, x8, x9, x10, x11], rfl, (by simp only [putL, Act.put, List.setIfInBounds_toArray, List.set_cons_succ, List.set_cons_zero]), (fun _ => rfl), (fun _ => rfl), (fun _ => rfl), (fun _ => rfl), (fun _ => ⟨g, cap, rfl, Nat.le_trans jb.size hg, hcap, hx⟩), j5, j6, j7, j8, (o9.later hb), (fun h => nomatch ((a10 h).1.symm.trans hi)), a11, (fun _ h => Ne.symm (o9.ne h hg)), jb.trans (hb.mono jb.size)⟩
    · simp only [List.getElem?_cons_zero, List.getElem?_cons_succ, Option.some.injEq] at ho
      subst ho
      simp only [putL, Act.put, List.setIfInBounds_toArray, List.set_cons_succ, List.set_cons_zero]
      go_wp2
      exact ⟨rfl, [x0, x1, x2, x3, x4, _, x6, x7, x8, x9, x10, x11], rfl, (by simp only [putL, Act.put, List.setIfInBounds_toArray, List.set_cons_succ, List.set_cons_zero]), j0, j1, j2, j3, o4, (fun _ => rfl), j6, j7, j8, o9, a10, a11, u4_9, jb⟩
    · simp only [List.getElem?_cons_zero, List.getElem?_cons_succ, Option.some.injEq] at ho
      subst ho
      simp only [putL, Act.put, List.setIfInBounds_toArray, List.set_cons_succ, List.set_cons_zero]
      go_wp2
      exact ⟨rfl, [x0, x1, x2, x3, x4, x5, _, x7, x8, x9, x10, x11], rfl, (by simp only [putL, Act.put, List.setIfInBounds_toArray, List.set_cons_succ, List.set_cons_zero]), j0, j1, j2, j3, o4, j5, (fun _ => rfl), j7, j8, o9, a10, a11, u4_9, jb⟩
    · simp only [List.getElem?_cons_zero, List.getElem?_cons_succ, Option.some.injEq] at ho
      subst ho
      simp only [putL, Act.put, List.setIfInBounds_toArray, List.set_cons_succ, List.set_cons_zero]
      go_wp2
      exact ⟨rfl, [x0, x1, x2, x3, x4, x5, x6, _, x8, x9, x10, x11], rfl, (by simp only [putL, Act.put, List.setIfInBounds_toArray, List.set_cons_succ, List.set_cons_zero]), j0, j1, j2, j3, o4, j5, j6, (fun _ => rfl), j8, o9, a10, a11, u4_9, jb⟩
    · simp only [List.getElem?_cons_zero, List.getElem?_cons_succ, Option.some.injEq] at ho
      subst ho
      have h0 := (VB.out.later jb VB.out.lt).c0
      have h1 := (VB.out.later jb VB.out.lt).c1
      simp only [putL, Act.put, List.setIfInBounds_toArray, List.set_cons_succ, List.set_cons_zero] at h0 h1 ⊢
      go_wp2
      exact ⟨rfl, [x0, x1, x2, x3, x4, x5, x6, x7, _, x9, x10, x11], rfl, (by simp only [putL, Act.put, List.setIfInBounds_toArray, List.set_cons_succ, List.set_cons_zero]), j0, j1, j2, j3, o4, j5, j6, j7, (fun _ => rfl), o9, a10, a11, u4_9, jb⟩
    · simp only [List.getElem?_cons_zero, List.getElem?_cons_succ, Option.some.injEq] at ho
      subst ho
      obtain rfl := j5 (List.all_eq_true.1 hw 5 (by decide))
      obtain rfl := j6 (List.all_eq_true.1 hw 6 (by decide))
      obtain rfl := j7 (List.all_eq_true.1 hw 7 (by decide))
      obtain rfl := j8 (List.all_eq_true.1 hw 8 (by decide))
      simp only [putL, Act.put, List.setIfInBounds_toArray, List.set_cons_succ, List.set_cons_zero]
      go_wp2_with ((with_reducible refine (CB.out _).mono ?_); rintro e w1 hpost; obtain ⟨g, cap, hg, rfl, hcap, hx, hb⟩ := list_x hpost)
      exact ⟨rfl, [x0, x1, x2, x3, x4, _, _, _, _, _, x10, x11], rfl, (by simp only [putL, Act.put, List.setIfInBounds_toArray, List.set_cons_succ, List.set_cons_zero]), j0, j1, j2, j3, (o4.later hb), (fun _ => rfl), (fun _ => rfl), (fun _ => rfl), (fun _ => rfl), (fun _ => ⟨g, cap, rfl, Nat.le_trans jb.size hg, hcap, hx⟩), a10, (fun h => nomatch ((a11 h).1.symm.trans hi)), (fun h _ => o4.ne h hg), jb.trans (hb.mono jb.size)⟩
    · simp only [List.getElem?_cons_zero, List.getElem?_cons_succ, Option.some.injEq] at ho
      subst ho
      have hd : d 4 = true := List.all_eq_true.1 hw 4 (by decide)
      simp only [putL, Act.put, List.setIfInBounds_toArray, List.set_cons_succ, List.set_cons_zero]
      go_wp2
      exact ⟨rfl, [x0, x1, x2, x3, x4, x5, x6, x7, x8, x9, _, x11], rfl, (by simp only [putL, Act.put, List.setIfInBounds_toArray, List.set_cons_succ, List.set_cons_zero]), j0, j1, j2, j3, o4, j5, j6, j7, j8, o9, (fun _ => ⟨hd, rfl⟩), a11, u4_9, jb⟩
    · simp only [List.getElem?_cons_zero, List.getElem?_cons_succ, Option.some.injEq] at ho
      subst ho
      have hd : d 9 = true := List.all_eq_true.1 hw 9 (by decide)
      simp only [putL, Act.put, List.setIfInBounds_toArray, List.set_cons_succ, List.set_cons_zero]
      go_wp2
      exact ⟨rfl, [x0, x1, x2, x3, x4, x5, x6, x7, x8, x9, x10, _], rfl, (by simp only [putL, Act.put, List.setIfInBounds_toArray, List.set_cons_succ, List.set_cons_zero]), j0, j1, j2, j3, o4, j5, j6, j7, j8, o9, a10, (fun _ => ⟨hd, rfl⟩), u4_9, jb⟩

set_option maxRecDepth 100000 in
set_option maxHeartbeats 8000000 in
theorem rvx_16 (s h : Bool) (a0 a1 b0 b1 p q m : Nat) (fa fb f : Nat → Nat)
    (CA : Hide (∀ W : World, Calls Tryd.prog 62 #[.int .i64 16, .bool s, .bool h, vecV (a0, a1)] W fun e W' => ListPost W 4 ((List.range 4).map fa) e W'))
    (CB : Hide (∀ W : World, Calls Tryd.prog 62 #[.int .i64 16, .bool s, .bool h, vecV (b0, b1)] W fun e W' => ListPost W 4 ((List.range 4).map fb) e W'))
    (CM : Hide (∀ W : World, Calls Tryd.prog 50 #[.int .i64 32] W fun e W' => e = .returned (.int .u64 (m : Int)) ∧ W' = W))
    (EQ : Hide (∀ i, i < 4 → bits .and .u64 (IntKind.u64.wrap ((fa i : Int) * (fb i : Int))) (m : Int) = (f i : Int)))
    (CV : Hide (∀ (W : World) (g cap : Nat), XBlk W g 4 ((List.range 4).map f) → Calls Tryd.prog 40 #[.int .i64 32, .slice (some ⟨g, 0, none⟩) 4 cap] W fun e W' => e = .returned (vecV (p, q)) ∧ Below W.heap.size W W'))
    (W : World) :
    Calls Tryd.prog 27 #[.int .i64 16, .bool s, .bool h, vecV (a0, a1), vecV (b0, b1)] W fun e W' => e = .returned (vecE ((p, q), 0)) ∧ Below W.heap.size W W' := by
  obtain ⟨wa, hwa⟩ : ∃ wa, ((W.alloc (.cells #[.int .u64 (a0 : Int), .int .u64 (a1 : Int)] 25)).alloc (.cells #[.int .u64 (b0 : Int), .int .u64 (b1 : Int)] 25)).alloc (.cells #[.int .u64 0, .int .u64 0] 25) = wa := ⟨_, rfl⟩
  have VA : Hide (VBlk wa W.heap.size (a0, a1)) := hide (by rw [← hwa]; exact alloc_past (alloc_past (alloc_at rfl)))
  have VB : Hide (VBlk wa (W.heap.size + 1) (b0, b1)) := hide (by rw [← hwa]; exact alloc_past (alloc_at (by simp)))
  have ZB : Hide (VBlk wa (W.heap.size + 1 + 1) (0, 0)) := hide (by rw [← hwa]; exact alloc_at (by simp))
  have BA : Hide (Below W.heap.size W wa) := hide (by rw [← hwa]; exact (((Below.refl _ _).alloc (Nat.le_refl _) _).alloc (by simp) _).alloc (by simp; omega) _)
  have HWA := hide hwa
  clear hwa
  unfold vecV at CA CB CV ⊢
  simp only at CA CB CV ⊢
  go_enter Tryd.func27, Tryd.ntmps27
  go_wp2_with fail
  rw [HWA.out]
  refine wp_region_par [26, 27, 28, 29, 30, 31, 32, 33, 34, 35, 12, 13] (TimesJ (.agg #[.int .u64 (a0 : Int), .int .u64 (a1 : Int)]) (.agg #[.int .u64 (b0 : Int), .int .u64 (b1 : Int)]) (.int .i64 16) (.bool s) (.bool h) 4 ((List.range 4).map fa) ((List.range 4).map fb) wa) (by kernel_rfl) (by kernel_rfl) ?_ ?_ ?_
  · intro vs
    exact ⟨(fun h => by cases h), (fun h => by cases h), (fun h => by cases h), (fun h => by cases h), (fun h => by cases h), (fun h => by cases h), (fun h => by cases h), (fun h => by cases h), (fun h => by cases h), (fun h => by cases h), (fun h => by cases h), (fun h => by cases h), (fun h => by cases h), (Below.refl _ _).drew⟩
  · intro d vs w1 hd hl hJ
    match vs, hl with
    | [x0, x1, x2, x3, x4, x5, x6, x7, x8, x9, x10, x11], _ =>
    obtain ⟨j0, j1, j2, j3, o4, j5, j6, j7, j8, o9, a10, a11, u4_9, jb⟩ := hJ
    obtain rfl := j0 (hd 0 (by decide))
    obtain rfl := j1 (hd 1 (by decide))
    obtain rfl := j2 (hd 2 (by decide))
    obtain rfl := j3 (hd 3 (by decide))
    obtain rfl := j5 (hd 5 (by decide))
    obtain rfl := j6 (hd 6 (by decide))
    obtain rfl := j7 (hd 7 (by decide))
    obtain rfl := j8 (hd 8 (by decide))
    have e10 := (a10 (hd 10 (by decide))).2
    simp only [List.getElem?_cons_zero, List.getElem?_cons_succ, Option.getD_some] at e10
    subst e10
    have e11 := (a11 (hd 11 (by decide))).2
    simp only [List.getElem?_cons_zero, List.getElem?_cons_succ, Option.getD_some] at e11
    subst e11
    obtain ⟨g1, cap1, e4, hg1, hc1, hx1⟩ := o4 (hd 4 (by decide))
    simp only [List.getElem?_cons_zero, List.getElem?_cons_succ, Option.getD_some] at e4
    subst e4
    obtain ⟨g2, cap2, e9, hg2, hc2, hx2⟩ := o9 (hd 9 (by decide))
    simp only [List.getElem?_cons_zero, List.getElem?_cons_succ, Option.getD_some] at e9
    subst e9
    have hne : g1 ≠ g2 := u4_9 (hd 4 (by decide)) (hd 9 (by decide))
    have JB := hide jb
    have K1 := hide hx1
    have K2 := hide hx2
    clear hd hl jb j0 j1 j2 j3 o4 j5 j6 j7 j8 o9 a10 a11 u4_9 hx1 hx2
    simp only [putL, Act.put, List.setIfInBounds_toArray, List.set_cons_succ, List.set_cons_zero]
    have ZW := hide (ZB.out.later JB.out ZB.out.lt)
    have BW := hide (BA.out.trans (JB.out.mono BA.out.size))
    have S0 : Hide (TwAt W (W.heap.size + 1 + 1) g1 g2 4 (mixC 4 f fa 0) ((List.range 4).map fb) w1) := hide ⟨ZW.out, by rw [mix_zero]; exact K1.out, K2.out, BW.out⟩
    have HG : Hide (W.heap.size + 1 + 1 < g1) := hide (by have := ZB.out.lt; omega)
    have HN : Hide (g2 ≠ g1) := hide (Ne.symm hne)
    clear K1 K2 BW JB ZW VA VB ZB BA HWA CA CB hne hg1 hg2 hc1 hc2
    go_wp2_with fail
    go_loopw [14] (fun x wr => ∃ k : Nat, x = .int .i64 (k : Int) ∧ k ≤ 4 ∧ TwAt W (W.heap.size + 1 + 1) g1 g2 4 (mixC 4 f fa k) ((List.range 4).map fb) wr) (fun x _ => 4 - (intOf x).toNat)
    case atStart => exact ⟨0, rfl, by omega, S0.out⟩
    case round =>
      obtain ⟨k, rfl, hk, hr⟩ := hrel
      have H := hide hr
      clear hr S0
      by_cases c0 : k < 4
      · have c1 : (k : Int) < 4 := by omega
        have hA : wr.cell? ⟨g1, k, none⟩ = some (.int .u64 (fa k : Int)) := by
          have := H.out.2.1.cell k c0
          rwa [mix_at 4 f fa k k c0, if_neg (by omega)] at this
        have hB : wr.cell? ⟨g2, k, none⟩ = some (.int .u64 (fb k : Int)) := by
          have := H.out.2.2.1.cell k c0
          rwa [show at0 ((List.range 4).map fb) k = fb k by simp [at0, List.getElem?_range c0]] at this
        have hz : wr.frozen? ⟨g1, k, none⟩ = false := H.out.2.1.frozen k
        have ST := hide (mix_set 4 f fa k c0)
        have EK := EQ.out k c0
        have HC := hide c0
        clear EQ c0
        generalize fa k = xa at *
        generalize fb k = xb at *
        generalize f k = y at *
        go_wp2_with fail
        refine wp_region_still_tail 16 (by kernel_rfl) (by kernel_rfl) ?_
        simp only [List.take_succ_cons, List.take_zero, List.drop_succ_cons, List.drop_zero]
        iterate 13 still_step
        still_call (CM.out _)
        iterate 2 still_step
        refine wpStill_nil ?_
        go_wp2
        go_roundw
        case rel => exact ⟨k + 1, by go_num, HC.out, by rw [← ST.out]; exact (H.out.put (mix_length _ _ _ _) k y HC.out (by have := HG.out; omega) HN.out (by have := HG.out; omega)).drewN 1⟩
        case measure => have := HC.out; simp [intOf]; omega
      · obtain rfl : k = 4 := by omega
        rw [mix_all] at H
        have CK := hide (fun cap => CV.out wr g1 cap H.out.2.1)
        clear EQ CV c0
        go_wp2_with fail
        refine (CK.out _).mono ?_
        rintro e w2 ⟨rfl, hb⟩
        have H2 := hide (H.out.later hb)
        have z := H2.out.1
        have r0 : w2.cell? ⟨W.heap.size + 1 + 1, 0, none⟩ = some (.int .u64 0) := z.c0
        have r1 : w2.cell? ⟨W.heap.size + 1 + 1, 1, none⟩ = some (.int .u64 0) := z.c1
        have z0 : w2.frozen? ⟨W.heap.size + 1 + 1, 0, none⟩ = false := z.frozen 0
        have z1 : w2.frozen? ⟨W.heap.size + 1 + 1, 1, none⟩ = false := z.frozen 1
        clear z
        clear hb H
        go_wp2
        refine bodyPost_ret (v := vecE ((p, q), 0)) ((H2.out.1.set2 p q).result2 (by rfl) _ rfl rfl) rfl ?_
        exact ⟨rfl, (H2.out.2.2.2.setCell (by simp; omega) _).setCell (by simp; omega) _⟩
  · intro i o ho d vs w hl hJ hi hw
    match vs, hl with
    | [x0, x1, x2, x3, x4, x5, x6, x7, x8, x9, x10, x11], _ =>
    have hin : i < 12 := (List.getElem?_eq_some_iff.1 ho).1
    obtain ⟨j0, j1, j2, j3, o4, j5, j6, j7, j8, o9, a10, a11, u4_9, jb⟩ := hJ
    simp only [List.getElem?_cons_zero, List.getElem?_cons_succ, Option.some.injEq, Option.getD_some] at j0 j1 j2 j3 o4 j5 j6 j7 j8 o9 a10 a11 u4_9
    rcases (show i = 0 ∨ i = 1 ∨ i = 2 ∨ i = 3 ∨ i = 4 ∨ i = 5 ∨ i = 6 ∨ i = 7 ∨ i = 8 ∨ i = 9 ∨ i = 10 ∨ i = 11 by omega) with rfl | rfl | rfl | rfl | rfl | rfl | rfl | rfl | rfl | rfl | rfl | rfl
    · simp only [List.getElem?_cons_zero, List.getElem?_cons_succ, Option.some.injEq] at ho
      subst ho
      simp only [putL, Act.put, List.setIfInBounds_toArray, List.set_cons_succ, List.set_cons_zero]
      go_wp2
      exact ⟨rfl, [_, x1, x2, x3, x4, x5, x6, x7, x8, x9, x10, x11], rfl, (by simp only [putL, Act.put, List.setIfInBounds_toArray, List.set_cons_succ, List.set_cons_zero]), (fun _ => rfl), j1, j2, j3, o4, j5, j6, j7, j8, o9, a10, a11, u4_9, jb⟩
    · simp only [List.getElem?_cons_zero, List.getElem?_cons_succ, Option.some.injEq] at ho
      subst ho
      simp only [putL, Act.put, List.setIfInBounds_toArray, List.set_cons_succ, List.set_cons_zero]
      go_wp2
      exact ⟨rfl, [x0, _, x2, x3, x4, x5, x6, x7, x8, x9, x10, x11], rfl, (by simp only [putL, Act.put, List.setIfInBounds_toArray, List.set_cons_succ, List.set_cons_zero]), j0, (fun _ => rfl), j2, j3, o4, j5, j6, j7, j8, o9, a10, a11, u4_9, jb⟩
    · simp only [List.getElem?_cons_zero, List.getElem?_cons_succ, Option.some.injEq] at ho
      subst ho
      simp only [putL, Act.put, List.setIfInBounds_toArray, List.set_cons_succ, List.set_cons_zero]
      go_wp2
      exact ⟨rfl, [x0, x1, _, x3, x4, x5, x6, x7, x8, x9, x10, x11], rfl, (by simp only [putL, Act.put, List.setIfInBounds_toArray, List.set_cons_succ, List.set_cons_zero]), j0, j1, (fun _ => rfl), j3, o4, j5, j6, j7, j8, o9, a10, a11, u4_9, jb⟩
    · simp only [List.getElem?_cons_zero, List.getElem?_cons_succ, Option.some.injEq] at ho
      subst ho
      have h0 := (VA.out.later jb VA.out.lt).c0
      have h1 := (VA.out.later jb VA.out.lt).c1
      simp only [putL, Act.put, List.setIfInBounds_toArray, List.set_cons_succ, List.set_cons_zero] at h0 h1 ⊢
      go_wp2
      exact ⟨rfl, [x0, x1, x2, _, x4, x5, x6, x7, x8, x9, x10, x11], rfl, (by simp only [putL, Act.put, List.setIfInBounds_toArray, List.set_cons_succ, List.set_cons_zero]), j0, j1, j2, (fun _ => rfl), o4, j5, j6, j7, j8, o9, a10, a11, u4_9, jb⟩
    · simp only [List.getElem?_cons_zero, List.getElem?_cons_succ, Option.some.injEq] at ho
      subst ho
      obtain rfl := j0 (List.all_eq_true.1 hw 0 (by decide))
      obtain rfl := j1 (List.all_eq_true.1 hw 1 (by decide))
      obtain rfl := j2 (List.all_eq_true.1 hw 2 (by decide))
      obtain rfl := j3 (List.all_eq_true.1 hw 3 (by decide))
      simp only [putL, Act.put, List.setIfInBounds_toArray, List.set_cons_succ, List.set_cons_zero]
      go_wp2_with ((with_reducible refine (CA.out _).mono ?_); rintro e w1 hpost; obtain ⟨g, cap, hg, rfl, hcap, hx, hb⟩ := list_x hpost)
      exact ⟨rfl, [_, _, _, _, _, x5, x6, x7, x8, x9, x10, x11], rfl, (by simp only [putL, Act.put, List.setIfInBounds_toArray, List.set_cons_succ, List.set_cons_zero]), (fun _ => rfl), (fun _ => rfl), (fun _ => rfl), (fun _ => rfl), (fun _ => ⟨g, cap, rfl, Nat.le_trans jb.size hg, hcap, hx⟩), j5, j6, j7, j8, (o9.later hb), (fun h => nomatch ((a10 h).1.symm.trans hi)), a11, (fun _ h => Ne.symm (o9.ne h hg)), jb.trans (hb.mono jb.size)⟩
    · simp only [List.getElem?_cons_zero, List.getElem?_cons_succ, Option.some.injEq] at ho
      subst ho
      simp only [putL, Act.put, List.setIfInBounds_toArray, List.set_cons_succ, List.set_cons_zero]
      go_wp2
      exact ⟨rfl, [x0, x1, x2, x3, x4, _, x6, x7, x8, x9, x10, x11], rfl, (by simp only [putL, Act.put, List.setIfInBounds_toArray, List.set_cons_succ, List.set_cons_zero]), j0, j1, j2, j3, o4, (fun _ => rfl), j6, j7, j8, o9, a10, a11, u4_9, jb⟩
    · simp only [List.getElem?_cons_zero, List.getElem?_cons_succ, Option.some.injEq] at ho
      subst ho
      simp only [putL, Act.put, List.setIfInBounds_toArray, List.set_cons_succ, List.set_cons_zero]
      go_wp2
      exact ⟨rfl, [x0, x1, x2, x3, x4, x5, _, x7, x8, x9, x10, x11], rfl, (by simp only [putL, Act.put, List.setIfInBounds_toArray, List.set_cons_succ, List.set_cons_zero]), j0, j1, j2, j3, o4, j5, (fun _ => rfl), j7, j8, o9, a10, a11, u4_9, jb⟩
    · simp only [List.getElem?_cons_zero, List.getElem?_cons_succ, Option.some.injEq] at ho
      subst ho
      simp only [putL, Act.put, List.setIfInBounds_toArray, List.set_cons_succ, List.set_cons_zero]
      go_wp2
      exact ⟨rfl, [x0, x1, x2, x3, x4, x5, x6, _, x8, x9, x10, x11], rfl, (by simp only [putL, Act.put, List.setIfInBounds_toArray, List.set_cons_succ, List.set_cons_zero]), j0, j1, j2, j3, o4, j5, j6, (fun _ => rfl), j8, o9, a10, a11, u4_9, jb⟩
    · simp only [List.getElem?_cons_zero, List.getElem?_cons_succ, Option.some.injEq] at ho
      subst ho
      have h0 := (VB.out.later jb VB.out.lt).c0
      have h1 := (VB.out.later jb VB.out.lt).c1
      simp only [putL, Act.put, List.setIfInBounds_toArray, List.set_cons_succ, List.set_cons_zero] at h0 h1 ⊢
      go_wp2
      exact ⟨rfl, [x0, x1, x2, x3, x4, x5, x6, x7, _, x9, x10, x11], rfl, (by simp only [putL, Act.put, List.setIfInBounds_toArray, List.set_cons_succ, List.set_cons_zero]), j0, j1, j2, j3, o4, j5, j6, j7, (fun _ => rfl), o9, a10, a11, u4_9, jb⟩
    · simp only [List.getElem?_cons_zero, List.getElem?_cons_succ, Option.some.injEq] at ho
      subst ho
      obtain rfl := j5 (List.all_eq_true.1 hw 5 (by decide))
      obtain rfl := j6 (List.all_eq_true.1 hw 6 (by decide))
      obtain rfl := j7 (List.all_eq_true.1 hw 7 (by decide))
      obtain rfl := j8 (List.all_eq_true.1 hw 8 (by decide))
      simp only [putL, Act.put, List.setIfInBounds_toArray, List.set_cons_succ, List.set_cons_zero]
      go_wp2_with ((with_reducible refine (CB.out _).mono ?_); rintro e w1 hpost; obtain ⟨g, cap, hg, rfl, hcap, hx, hb⟩ := list_x hpost)
      exact ⟨rfl, [x0, x1, x2, x3, x4, _, _, _, _, _, x10, x11], rfl, (by simp only [putL, Act.put, List.setIfInBounds_toArray, List.set_cons_succ, List.set_cons_zero]), j0, j1, j2, j3, (o4.later hb), (fun _ => rfl), (fun _ => rfl), (fun _ => rfl), (fun _ => rfl), (fun _ => ⟨g, cap, rfl, Nat.le_trans jb.size hg, hcap, hx⟩), a10, (fun h => nomatch ((a11 h).1.symm.trans hi)), (fun h _ => o4.ne h hg), jb.trans (hb.mono jb.size)⟩
    · simp only [List.getElem?_cons_zero, List.getElem?_cons_succ, Option.some.injEq] at ho
      subst ho
      have hd : d 4 = true := List.all_eq_true.1 hw 4 (by decide)
      simp only [putL, Act.put, List.setIfInBounds_toArray, List.set_cons_succ, List.set_cons_zero]
      go_wp2
      exact ⟨rfl, [x0, x1, x2, x3, x4, x5, x6, x7, x8, x9, _, x11], rfl, (by simp only [putL, Act.put, List.setIfInBounds_toArray, List.set_cons_succ, List.set_cons_zero]), j0, j1, j2, j3, o4, j5, j6, j7, j8, o9, (fun _ => ⟨hd, rfl⟩), a11, u4_9, jb⟩
    · simp only [List.getElem?_cons_zero, List.getElem?_cons_succ, Option.some.injEq] at ho
      subst ho
      have hd : d 9 = true := List.all_eq_true.1 hw 9 (by decide)
      simp only [putL, Act.put, List.setIfInBounds_toArray, List.set_cons_succ, List.set_cons_zero]
      go_wp2
      exact ⟨rfl, [x0, x1, x2, x3, x4, x5, x6, x7, x8, x9, x10, _], rfl, (by simp only [putL, Act.put, List.setIfInBounds_toArray, List.set_cons_succ, List.set_cons_zero]), j0, j1, j2, j3, o4, j5, j6, j7, j8, o9, a10, (fun _ => ⟨hd, rfl⟩), u4_9, jb⟩

set_option maxRecDepth 100000 in
set_option maxHeartbeats 8000000 in
theorem rvx_32 (s h : Bool) (a0 a1 b0 b1 p q m : Nat) (fa fb f : Nat → Nat)
    (CA : Hide (∀ W : World, Calls Tryd.prog 62 #[.int .i64 32, .bool s, .bool h, vecV (a0, a1)] W fun e W' => ListPost W 2 ((List.range 2).map fa) e W'))
    (CB : Hide (∀ W : World, Calls Tryd.prog 62 #[.int .i64 32, .bool s, .bool h, vecV (b0, b1)] W fun e W' => ListPost W 2 ((List.range 2).map fb) e W'))
    (CM : Hide (∀ W : World, Calls Tryd.prog 50 #[.int .i64 64] W fun e W' => e = .returned (.int .u64 (m : Int)) ∧ W' = W))
    (EQ : Hide (∀ i, i < 2 → bits .and .u64 (IntKind.u64.wrap ((fa i : Int) * (fb i : Int))) (m : Int) = (f i : Int)))
    (CV : Hide (∀ (W : World) (g cap : Nat), XBlk W g 2 ((List.range 2).map f) → Calls Tryd.prog 40 #[.int .i64 64, .slice (some ⟨g, 0, none⟩) 2 cap] W fun e W' => e = .returned (vecV (p, q)) ∧ Below W.heap.size W W'))
    (W : World) :
    Calls Tryd.prog 27 #[.int .i64 32, .bool s, .bool h, vecV (a0, a1), vecV (b0, b1)] W fun e W' => e = .returned (vecE ((p, q), 0)) ∧ Below W.heap.size W W' := by
  obtain ⟨wa, hwa⟩ : ∃ wa, ((W.alloc (.cells #[.int .u64 (a0 : Int), .int .u64 (a1 : Int)] 25)).alloc (.cells #[.int .u64 (b0 : Int), .int .u64 (b1 : Int)] 25)).alloc (.cells #[.int .u64 0, .int .u64 0] 25) = wa := ⟨_, rfl⟩
  have VA : Hide (VBlk wa W.heap.size (a0, a1)) := hide (by rw [← hwa]; exact alloc_past (alloc_past (alloc_at rfl)))
  have VB : Hide (VBlk wa (W.heap.size + 1) (b0, b1)) := hide (by rw [← hwa]; exact alloc_past (alloc_at (by simp)))
  have ZB : Hide (VBlk wa (W.heap.size + 1 + 1) (0, 0)) := hide (by rw [← hwa]; exact alloc_at (by simp))
  have BA : Hide (Below W.heap.size W wa) := hide (by rw [← hwa]; exact (((Below.refl _ _).alloc (Nat.le_refl _) _).alloc (by simp) _).alloc (by simp; omega) _)
  have HWA := hide hwa
  clear hwa
  unfold vecV at CA CB CV ⊢
  simp only at CA CB CV ⊢
  go_enter Tryd.func27, Tryd.ntmps27
  go_wp2_with fail
  rw [HWA.out]
  refine wp_region_par [26, 27, 28, 29, 30, 31, 32, 33, 34, 35, 12, 13] (TimesJ (.agg #[.int .u64 (a0 : Int), .int .u64 (a1 : Int)]) (.agg #[.int .u64 (b0 : Int), .int .u64 (b1 : Int)]) (.int .i64 32) (.bool s) (.bool h) 2 ((List.range 2).map fa) ((List.range 2).map fb) wa) (by kernel_rfl) (by kernel_rfl) ?_ ?_ ?_
  · intro vs
    exact ⟨(fun h => by cases h), (fun h => by cases h), (fun h => by cases h), (fun h => by cases h), (fun h => by cases h), (fun h => by cases h), (fun h => by cases h), (fun h => by cases h), (fun h => by cases h), (fun h => by cases h), (fun h => by cases h), (fun h => by cases h), (fun h => by cases h), (Below.refl _ _).drew⟩
  · intro d vs w1 hd hl hJ
    match vs, hl with
    | [x0, x1, x2, x3, x4, x5, x6, x7, x8, x9, x10, x11], _ =>
    obtain ⟨j0, j1, j2, j3, o4, j5, j6, j7, j8, o9, a10, a11, u4_9, jb⟩ := hJ
    obtain rfl := j0 (hd 0 (by decide))
    obtain rfl := j1 (hd 1 (by decide))
    obtain rfl := j2 (hd 2 (by decide))
    obtain rfl := j3 (hd 3 (by decide))
    obtain rfl := j5 (hd 5 (by decide))
    obtain rfl := j6 (hd 6 (by decide))
    obtain rfl := j7 (hd 7 (by decide))
    obtain rfl := j8 (hd 8 (by decide))
    have e10 := (a10 (hd 10 (by decide))).2
    simp only [List.getElem?_cons_zero, List.getElem?_cons_succ, Option.getD_some] at e10
    subst e10
    have e11 := (a11 (hd 11 (by decide))).2
    simp only [List.getElem?_cons_zero, List.getElem?_cons_succ, Option.getD_some] at e11
    subst e11
    obtain ⟨g1, cap1, e4, hg1, hc1, hx1⟩ := o4 (hd 4 (by decide))
    simp only [List.getElem?_cons_zero, List.getElem?_cons_succ, Option.getD_some] at e4
    subst e4
    obtain ⟨g2, cap2, e9, hg2, hc2, hx2⟩ := o9 (hd 9 (by decide))
    simp only [List.getElem?_cons_zero, List.getElem?_cons_succ, Option.getD_some] at e9
    subst e9
    have hne : g1 ≠ g2 := u4_9 (hd 4 (by decide)) (hd 9 (by decide))
    have JB := hide jb
    have K1 := hide hx1
    have K2 := hide hx2
    clear hd hl jb j0 j1 j2 j3 o4 j5 j6 j7 j8 o9 a10 a11 u4_9 hx1 hx2
    simp only [putL, Act.put, List.setIfInBounds_toArray, List.set_cons_succ, List.set_cons_zero]
    have ZW := hide (ZB.out.later JB.out ZB.out.lt)
    have BW := hide (BA.out.trans (JB.out.mono BA.out.size))
    have S0 : Hide (TwAt W (W.heap.size + 1 + 1) g1 g2 2 (mixC 2 f fa 0) ((List.range 2).map fb) w1) := hide ⟨ZW.out, by rw [mix_zero]; exact K1.out, K2.out, BW.out⟩
    have HG : Hide (W.heap.size + 1 + 1 < g1) := hide (by have := ZB.out.lt; omega)
    have HN : Hide (g2 ≠ g1) := hide (Ne.symm hne)
    clear K1 K2 BW JB ZW VA VB ZB BA HWA CA CB hne hg1 hg2 hc1 hc2
    go_wp2_with fail
    go_loopw [14] (fun x wr => ∃ k : Nat, x = .int .i64 (k : Int) ∧ k ≤ 2 ∧ TwAt W (W.heap.size + 1 + 1) g1 g2 2 (mixC 2 f fa k) ((List.range 2).map fb) wr) (fun x _ => 2 - (intOf x).toNat)
    case atStart => exact ⟨0, rfl, by omega, S0.out⟩
    case round =>
      obtain ⟨k, rfl, hk, hr⟩ := hrel
      have H := hide hr
      clear hr S0
      by_cases c0 : k < 2
      · have c1 : (k : Int) < 2 := by omega
        have hA : wr.cell? ⟨g1, k, none⟩ = some (.int .u64 (fa k : Int)) := by
          have := H.out.2.1.cell k c0
          rwa [mix_at 2 f fa k k c0, if_neg (by omega)] at this
        have hB : wr.cell? ⟨g2, k, none⟩ = some (.int .u64 (fb k : Int)) := by
          have := H.out.2.2.1.cell k c0
          rwa [show at0 ((List.range 2).map fb) k = fb k by simp [at0, List.getElem?_range c0]] at this
        have hz : wr.frozen? ⟨g1, k, none⟩ = false := H.out.2.1.frozen k
        have ST := hide (mix_set 2 f fa k c0)
        have EK := EQ.out k c0
        have HC := hide c0
        clear EQ c0
        generalize fa k = xa at *
        generalize fb k = xb at *
        generalize f k = y at *
        go_wp2_with fail
        refine wp_region_still_tail 16 (by kernel_rfl) (by kernel_rfl) ?_
        simp only [List.take_succ_cons, List.take_zero, List.drop_succ_cons, List.drop_zero]
        iterate 13 still_step
        still_call (CM.out _)
        iterate 2 still_step
        refine wpStill_nil ?_
        go_wp2
        go_roundw
        case rel => exact ⟨k + 1, by go_num, HC.out, by rw [← ST.out]; exact (H.out.put (mix_length _ _ _ _) k y HC.out (by have := HG.out; omega) HN.out (by have := HG.out; omega)).drewN 1⟩
        case measure => have := HC.out; simp [intOf]; omega
      · obtain rfl : k = 2 := by omega
        rw [mix_all] at H
        have CK := hide (fun cap => CV.out wr g1 cap H.out.2.1)
        clear EQ CV c0
        go_wp2_with fail
        refine (CK.out _).mono ?_
        rintro e w2 ⟨rfl, hb⟩
        have H2 := hide (H.out.later hb)
        have z := H2.out.1
        have r0 : w2.cell? ⟨W.heap.size + 1 + 1, 0, none⟩ = some (.int .u64 0) := z.c0
        have r1 : w2.cell? ⟨W.heap.size + 1 + 1, 1, none⟩ = some (.int .u64 0) := z.c1
        have z0 : w2.frozen? ⟨W.heap.size + 1 + 1, 0, none⟩ = false := z.frozen 0
        have z1 : w2.frozen? ⟨W.heap.size + 1 + 1, 1, none⟩ = false := z.frozen 1
        clear z
        clear hb H
        go_wp2
        refine bodyPost_ret (v := vecE ((p, q), 0)) ((H2.out.1.set2 p q).result2 (by rfl) _ rfl rfl) rfl ?_
        exact ⟨rfl, (H2.out.2.2.2.setCell (by simp; omega) _).setCell (by simp; omega) _⟩
  · intro i o ho d vs w hl hJ hi hw
    match vs, hl with
    | [x0, x1, x2, x3, x4, x5, x6, x7, x8, x9, x10, x11], _ =>
    have hin : i < 12 := (List.getElem?_eq_some_iff.1 ho).1
    obtain ⟨j0, j1, j2, j3, o4, j5, j6, j7, j8, o9, a10, a11, u4_9, jb⟩ := hJ
    simp only [List.getElem?_cons_zero, List.getElem?_cons_succ, Option.some.injEq, Option.getD_some] at j0 j1 j2 j3 o4 j5 j6 j7 j8 o9 a10 a11 u4_9
    rcases (show i = 0 ∨ i = 1 ∨ i = 2 ∨ i = 3 ∨ i = 4 ∨ i = 5 ∨ i = 6 ∨ i = 7 ∨ i = 8 ∨ i = 9 ∨ i = 10 ∨ i = 11 by omega) with rfl | rfl | rfl | rfl | rfl | rfl | rfl | rfl | rfl | rfl | rfl | rfl
    · simp only [List.getElem?_cons_zero, List.getElem?_cons_succ, Option.some.injEq] at ho
      subst ho
      simp only [putL, Act.put, List.setIfInBounds_toArray, List.set_cons_succ, List.set_cons_zero]
      go_wp2
      exact ⟨rfl, [_, x1, x2, x3, x4, x5, x6, x7, x8, x9, x10, x11], rfl, (by simp only [putL, Act.put, List.setIfInBounds_toArray, List.set_cons_succ, List.set_cons_zero]), (fun _ => rfl), j1, j2, j3, o4, j5, j6, j7, j8, o9, a10, a11, u4_9, jb⟩
    · simp only [List.getElem?_cons_zero, List.getElem?_cons_succ, Option.some.injEq] at ho
      subst ho
      simp only [putL, Act.put, List.setIfInBounds_toArray, List.set_cons_succ, List.set_cons_zero]
      go_wp2
      exact ⟨rfl, [x0, _, x2, x3, x4, x5, x6, x7, x8, x9, x10, x11], rfl, (by simp only [putL, Act.put, List.setIfInBounds_toArray, List.set_cons_succ, List.set_cons_zero]), j0, (fun _ => rfl), j2, j3, o4, j5, j6, j7, j8, o9, a10, a11, u4_9, jb⟩
    · simp only [List.getElem?_cons_zero, List.getElem?_cons_succ, Option.some.injEq] at ho
      subst ho
      simp only [putL, Act.put, List.setIfInBounds_toArray, List.set_cons_succ, List.set_cons_zero]
      go_wp2
      exact ⟨rfl, [x0, x1, _, x3, x4, x5, x6, x7, x8, x9, x10, x11], rfl, (by simp only [putL, Act.put, List.setIfInBounds_toArray, List.set_cons_succ, List.set_cons_zero]), j0, j1, (fun _ => rfl), j3, o4, j5, j6, j7, j8, o9, a10, a11, u4_9, jb⟩
    · simp only [List.getElem?_cons_zero, List.getElem?_cons_succ, Option.some.injEq] at ho
      subst ho
      have h0 := (VA.out.later jb VA.out.lt).c0
      have h1 := (VA.out.later jb VA.out.lt).c1
      simp only [putL, Act.put, List.setIfInBounds_toArray, List.set_cons_succ, List.set_cons_zero] at h0 h1 ⊢
      go_wp2
      exact ⟨rfl, [x0, x1, x2, _, x4, x5, x6, x7, x8, x9, x10, x11], rfl, (by simp only [putL, Act.put, List.setIfInBounds_toArray, List.set_cons_succ, List.set_cons_zero]), j0, j1, j2, (fun _ => rfl), o4, j5, j6, j7, j8, o9, a10, a11, u4_9, jb⟩
    · simp only [List.getElem?_cons_zero, List.getElem?_cons_succ, Option.some.injEq] at ho
      subst ho
      obtain rfl := j0 (List.all_eq_true.1 hw 0 (by decide))
      obtain rfl := j1 (List.all_eq_true.1 hw 1 (by decide))
      obtain rfl := j2 (List.all_eq_true.1 hw 2 (by decide))
      obtain rfl := j3 (List.all_eq_true.1 hw 3 (by decide))
      simp only [putL, Act.put, List.setIfInBounds_toArray, List.set_cons_succ, List.set_cons_zero]
      go_wp2_with ((with_reducible refine (CA.out _).mono ?_); rintro e w1 hpost; obtain ⟨g, cap, hg, rfl, hcap, hx, hb⟩ := list_x hpost)
      exact ⟨rfl, [_, _, _, _, _, x5, x6, x7, x8, x9, x10, x11], rfl, (by simp only [putL, Act.put, List.setIfInBounds_toArray, List.set_cons_succ, List.set_cons_zero]), (fun _ => rfl), (fun _ => rfl), (fun _ => rfl), (fun _ => rfl), (fun _ => ⟨g, cap, rfl, Nat.le_trans jb.size hg, hcap, hx⟩), j5, j6, j7, j8, (o9.later hb), (fun h => nomatch ((a10 h).1.symm.trans hi)), a11, (fun _ h => Ne.symm (o9.ne h hg)), jb.trans (hb.mono jb.size)⟩
    · simp only [List.getElem?_cons_zero, List.getElem?_cons_succ, Option.some.injEq] at ho
      subst ho
      simp only [putL, Act.put, List.setIfInBounds_toArray, List.set_cons_succ, List.set_cons_zero]
      go_wp2
      exact ⟨rfl, [x0, x1, x2, x3, x4, _, x6, x7, x8, x9, x10, x11], rfl, (by simp only [putL, Act.put, List.setIfInBounds_toArray, List.set_cons_succ, List.set_cons_zero]), j0, j1, j2, j3, o4, (fun _ => rfl), j6, j7, j8, o9, a10, a11, u4_9, jb⟩
    · simp only [List.getElem?_cons_zero, List.getElem?_cons_succ, Option.some.injEq] at ho
      subst ho
      simp only [putL, Act.put, List.setIfInBounds_toArray, List.set_cons_succ, List.set_cons_zero]
      go_wp2
      exact ⟨rfl, [x0, x1, x2, x3, x4, x5, _, x7, x8, x9, x10, x11], rfl, (by simp only [putL, Act.put, List.setIfInBounds_toArray, List.set_cons_succ, List.set_cons_zero]), j0, j1, j2, j3, o4, j5, (fun _ => rfl), j7, j8, o9, a10, a11, u4_9, jb⟩
    · simp only [List.getElem?_cons_zero, List.getElem?_cons_succ, Option.some.injEq] at ho
      subst ho
      simp only [putL, Act.put, List.setIfInBounds_toArray, List.set_cons_succ, List.set_cons_zero]
      go_wp2
      exact ⟨rfl, [x0, x1, x2, x3, x4, x5, x6, _, x8, x9, x10, x11], rfl, (by simp only [putL, Act.put, List.setIfInBounds_toArray, List.set_cons_succ, List.set_cons_zero]), j0, j1, j2, j3, o4, j5, j6, (fun _ => rfl), j8, o9, a10, a11, u4_9, jb⟩
    · simp only [List.getElem?_cons_zero, List.getElem?_cons_succ, Option.some.injEq] at ho
      subst ho
      have h0 := (VB.out.later jb VB.out.lt).c0
      have h1 := (VB.out.later jb VB.out.lt).c1
      simp only [putL, Act.put, List.setIfInBounds_toArray, List.set_cons_succ, List.set_cons_zero] at h0 h1 ⊢
      go_wp2
      exact ⟨rfl, [x0, x1, x2, x3, x4, x5, x6, x7, _, x9, x10, x11], rfl, (by simp only [putL, Act.put, List.setIfInBounds_toArray, List.set_cons_succ, List.set_cons_zero]), j0, j1, j2, j3, o4, j5, j6, j7, (fun _ => rfl), o9, a10, a11, u4_9, jb⟩
    · simp only [List.getElem?_cons_zero, List.getElem?_cons_succ, Option.some.injEq] at ho
      subst ho
      obtain rfl := j5 (List.all_eq_true.1 hw 5 (by decide))
      obtain rfl := j6 (List.all_eq_true.1 hw 6 (by decide))
      obtain rfl := j7 (List.all_eq_true.1 hw 7 (by decide))
      obtain rfl := j8 (List.all_eq_true.1 hw 8 (by decide))
      simp only [putL, Act.put, List.setIfInBounds_toArray, List.set_cons_succ, List.set_cons_zero]
      go_wp2_with ((with_reducible refine (CB.out _).mono ?_); rintro e w1 hpost; obtain ⟨g, cap, hg, rfl, hcap, hx, hb⟩ := list_x hpost)
      exact ⟨rfl, [x0, x1, x2, x3, x4, _, _, _, _, _, x10, x11], rfl, (by simp only [putL, Act.put, List.setIfInBounds_toArray, List.set_cons_succ, List.set_cons_zero]), j0, j1, j2, j3, (o4.later hb), (fun _ => rfl), (fun _ => rfl), (fun _ => rfl), (fun _ => rfl), (fun _ => ⟨g, cap, rfl, Nat.le_trans jb.size hg, hcap, hx⟩), a10, (fun h => nomatch ((a11 h).1.symm.trans hi)), (fun h _ => o4.ne h hg), jb.trans (hb.mono jb.size)⟩
    · simp only [List.getElem?_cons_zero, List.getElem?_cons_succ, Option.some.injEq] at ho
      subst ho
      have hd : d 4 = true := List.all_eq_true.1 hw 4 (by decide)
      simp only [putL, Act.put, List.setIfInBounds_toArray, List.set_cons_succ, List.set_cons_zero]
      go_wp2
      exact ⟨rfl, [x0, x1, x2, x3, x4, x5, x6, x7, x8, x9, _, x11], rfl, (by simp only [putL, Act.put, List.setIfInBounds_toArray, List.set_cons_succ, List.set_cons_zero]), j0, j1, j2, j3, o4, j5, j6, j7, j8, o9, (fun _ => ⟨hd, rfl⟩), a11, u4_9, jb⟩
    · simp only [List.getElem?_cons_zero, List.getElem?_cons_succ, Option.some.injEq] at ho
      subst ho
      have hd : d 9 = true := List.all_eq_true.1 hw 9 (by decide)
      simp only [putL, Act.put, List.setIfInBounds_toArray, List.set_cons_succ, List.set_cons_zero]
      go_wp2
      exact ⟨rfl, [x0, x1, x2, x3, x4, x5, x6, x7, x8, x9, x10, _], rfl, (by simp only [putL, Act.put, List.setIfInBounds_toArray, List.set_cons_succ, List.set_cons_zero]), j0, j1, j2, j3, o4, j5, j6, j7, j8, o9, a10, (fun _ => ⟨hd, rfl⟩), u4_9, jb⟩

set_option maxHeartbeats 2000000 in
theorem rvx_bad (w : Int) (n8 : (w != 8) = true) (n16 : (w != 16) = true) (n32 : (w != 32) = true) (s h : Bool) (a b : Nat × Nat) (W : World) :
    Calls Tryd.prog 27 #[.int .i64 w, .bool s, .bool h, vecV a, vecV b] W fun e W' => e = .returned (vecE ((0, 0), 2)) ∧ Below W.heap.size W W' := by
  unfold vecV
  go_enter Tryd.func27, Tryd.ntmps27
  go_wp2
  refine bodyPost_ret (v := vecE ((0, 0), 2)) (VBlk.result2 (v := (0, 0)) (alloc_at (g := W.heap.size + 1 + 1) (by simp)) (by rfl) _ rfl rfl) rfl ?_
  exact ⟨rfl, (((Below.refl _ _).alloc (Nat.le_refl _) _).alloc (by simp) _).alloc (by simp; omega) _⟩

end Go.Proofs.YtoihfmammmkloaaDoor
/-
  The document's Pairs of lanes.
-/
set_option linter.unusedVariables false
set_option linter.unusedSimpArgs false
namespace Go.Proofs.YtoihfmammmkloaaDoor
open Go.RowKit Lan

set_option maxRecDepth 100000 in
set_option maxHeartbeats 8000000 in
theorem rvp_8 (s : Bool) (a0 a1 p q m : Nat) (fa fe f : Nat → Nat)
    (CA : Hide (∀ W : World, Calls Tryd.prog 38 #[vecV (a0, a1), .int .i64 8] W fun e W' => ListPost W 16 ((List.range 16).map fa) e W'))
    (CT : Hide (∀ i, i < 16 → ∀ W : World, Calls Tryd.prog 64 #[.int .i64 8, .int .i64 16, .bool s, .int .u64 (fa i : Int)] W fun e W' => e = .returned (.tuple #[.int .u64 (fe i : Int), .int .i64 0]) ∧ W' = W))
    (CM : Hide (∀ W : World, Calls Tryd.prog 50 #[.int .i64 16] W fun e W' => e = .returned (.int .u64 (m : Int)) ∧ W' = W))
    (EQ : Hide (∀ i, i < 8 → bits .and .u64 (IntKind.u64.wrap ((fe (2 * i) : Int) + (fe (2 * i + 1) : Int))) (m : Int) = (f i : Int)))
    (CV : Hide (∀ (W : World) (g cap : Nat), XBlk W g 8 ((List.range 8).map f) → Calls Tryd.prog 40 #[.int .i64 16, .slice (some ⟨g, 0, none⟩) 8 cap] W fun e W' => e = .returned (vecV (p, q)) ∧ Below W.heap.size W W'))
    (W : World) :
    Calls Tryd.prog 29 #[.int .i64 8, .bool s, vecV (a0, a1)] W fun e W' => e = .returned (vecE ((p, q), 0)) ∧ Below W.heap.size W W' := by
  obtain ⟨i0, hi, hz0, hz1, hz2⟩ := info_parts infoW
  obtain ⟨wa, hwa⟩ : ∃ wa, (W.alloc (.cells #[.int .u64 (a0 : Int), .int .u64 (a1 : Int)] 25)).alloc (.cells #[.int .u64 0, .int .u64 0] 25) = wa := ⟨_, rfl⟩
  have VA : Hide (VBlk wa W.heap.size (a0, a1)) := hide (by rw [← hwa]; exact alloc_past (alloc_at rfl))
  have ZB : Hide (VBlk wa (W.heap.size + 1) (0, 0)) := hide (by rw [← hwa]; exact alloc_at (by simp))
  have BA : Hide (Below W.heap.size W wa) := hide (by rw [← hwa]; exact ((Below.refl _ _).alloc (Nat.le_refl _) _).alloc (by simp) _)
  have HWA := hide hwa
  clear hwa
  unfold vecV at CA CV ⊢
  simp only at CA CV ⊢
  go_enter Tryd.func29, Tryd.ntmps29
  go_wp2_with fail
  rw [HWA.out]
  refine (CA.out _).mono ?_
  rintro e w1 hpost
  obtain ⟨g1, cap1, hg1, rfl, hcap, hx, hb⟩ := list_x hpost
  have KX := hide hx
  have Z1 := hide (ZB.out.later hb ZB.out.lt)
  have B1 := hide (BA.out.trans (hb.mono BA.out.size))
  clear hx hb hpost hg1 hcap VA ZB BA HWA CA
  go_wp2_with fail
  go_loopw [9, 10] (fun v x wr => ∃ k j : Nat, j = 2 * k ∧ x = .int .i64 (j : Int) ∧ k ≤ 8 ∧ OwnW wr w1.heap.size v (pre f k) ∧ Below w1.heap.size w1 wr) (fun _ x _ => 16 - (intOf x).toNat)
  case atStart => exact ⟨0, 0, rfl, rfl, by omega, World.ownsRow_nil _ _ _ _, Below.refl _ _⟩
  case round =>
    obtain ⟨k, j, hj, rfl, hk, hown0, hbel⟩ := hrel
    have HBEL := hide hbel
    have HOWN := hide hown0
    clear hown0 hbel
    by_cases c0 : k < 8
    · have c1 : (j : Int) < 16 := by omega
      have c2 : (j : Int) + 1 < 16 := by omega
      obtain ⟨va, vc, hva⟩ := own_shape HOWN.out
      rw [pre_length] at hva
      have hown := HOWN.out
      rw [hva] at hown ⊢
      unfold OwnW at hown
      rw [pre_length] at hown
      have KW := KX.out.later HBEL.out KX.out.lt
      have hA : wr.cell? ⟨g1, j, none⟩ = some (.int .u64 (fa j : Int)) := by
        have := KW.cell j (by omega)
        rwa [show at0 ((List.range 16).map fa) j = fa j by simp [at0, List.getElem?_range (show j < 16 by omega)]] at this
      have hB : wr.cell? ⟨g1, j + 1, none⟩ = some (.int .u64 (fa (j + 1) : Int)) := by
        have := KW.cell (j + 1) (by omega)
        rwa [show at0 ((List.range 16).map fa) (j + 1) = fa (j + 1) by simp [at0, List.getElem?_range (show j + 1 < 16 by omega)]] at this
      have C3 : Hid (k + 1 ≤ maxLen) := by show k + 1 ≤ maxLen; unfold maxLen; omega
      have C4 : Hid ((k + 1) * 8 ≤ 140737488355328) := by show (k + 1) * 8 ≤ 140737488355328; omega
      have C5 : Hid (∀ o : Obj, w1.heap.size ≤ (wr.alloc o).heap.size) := by intro o; have := HBEL.out.size; simp; omega
      have PS := hide (pre_succ f k)
      have EK := EQ.out k c0
      rw [← hj] at EK
      have CK := hide (CT.out j (by omega))
      have CL := hide (CT.out (j + 1) (by omega))
      have HC : Hide (k < 8 ∧ j = 2 * k) := hide ⟨c0, hj⟩
      clear hva CT c0 hj KW EQ hk
      generalize fa j = xa at *
      generalize fa (j + 1) = xb at *
      generalize fe j = ea at *
      generalize fe (j + 1) = eb at *
      obtain ⟨y, hy⟩ : ∃ y, f k = y := ⟨_, rfl⟩
      rw [hy] at EK PS
      clear hy
      go_wp2_with (first | ((with_reducible refine (CK.out _).mono ?_); rintro e w0 ⟨rfl, hww⟩; replace hww := hww.symm; subst hww) | ((with_reducible refine (CL.out _).mono ?_); rintro e w0 ⟨rfl, hww⟩; replace hww := hww.symm; subst hww) | ((with_reducible refine (CM.out _).mono ?_); rintro e w0 ⟨rfl, hww⟩; replace hww := hww.symm; subst hww) | (at_builtin; refine wpList_append_own _ rfl _ _ 51 rfl w1.heap.size 23 i0 (.int .u64 0) 1 8 Tryd.underlying51 hi hz0 hz1 hz2 rfl (by decide) _ _ _ rfl (hown.alloc _) ⟨wr.heap.size, 0, none⟩ 1 1 [.int .u64 (y : Int)] rfl rfl (cell_one_new _ _ _) (one_cell64 _) C3.out C4.out (C5.out _) ?_))
      intro v' w3 hown' hgrow _
      have hown2 : OwnW w3 w1.heap.size v' (pre f (k + 1)) := by
        unfold OwnW
        rw [PS.out]; simpa [pre_length] using hown'
      have hbel2 : Below w1.heap.size w1 w3 := (HBEL.out.alloc HBEL.out.size _).grown hgrow (by have := HBEL.out.size; simp; omega) (fun k hk => (hown.lt k hk).1)
      have H2 := hide hown2
      have H3 := hide hbel2
      clear hown2 hbel2 hown' hgrow hown
      go_wp2
      go_roundw
      case rel => exact ⟨k + 1, j + 2, by have := HC.out.2; omega, by go_num, HC.out.1, H2.out, H3.out⟩
      case measure => have := HC.out; simp [intOf]; omega
    · obtain rfl : k = 8 := by omega
      obtain rfl : j = 16 := by omega
      obtain ⟨g, cap, cur, hg, hv, hcap, hblk, hcell⟩ := own_post HOWN.out (by rw [pre_length]; omega)
      rw [pre_length] at hv hcap hcell
      rw [hv]
      have CK := hide (CV.out wr g cap ⟨cur, hblk, hcell⟩)
      have Z2 := hide (Z1.out.later HBEL.out Z1.out.lt)
      have B2 := hide (B1.out.trans (HBEL.out.mono B1.out.size))
      clear CV CT EQ hv hg hcap hblk hcell hj c0
      go_wp2_with fail
      refine CK.out.mono ?_
      rintro e w2 ⟨rfl, hb⟩
      have Z3 := hide (Z2.out.later hb Z2.out.lt)
      have B3 := hide (B2.out.trans (hb.mono B2.out.size))
      have z := Z3.out
      have r0 : w2.cell? ⟨W.heap.size + 1, 0, none⟩ = some (.int .u64 0) := z.c0
      have r1 : w2.cell? ⟨W.heap.size + 1, 1, none⟩ = some (.int .u64 0) := z.c1
      have z0 : w2.frozen? ⟨W.heap.size + 1, 0, none⟩ = false := z.frozen 0
      have z1 : w2.frozen? ⟨W.heap.size + 1, 1, none⟩ = false := z.frozen 1
      clear z
      clear hb
      go_wp2
      refine bodyPost_ret (v := vecE ((p, q), 0)) ((Z3.out.set2 p q).result2 (by rfl) _ rfl rfl) rfl ?_
      exact ⟨rfl, (B3.out.setCell (by simp) _).setCell (by simp) _⟩

set_option maxRecDepth 100000 in
set_option maxHeartbeats 8000000 in
theorem rvp_16 (s : Bool) (a0 a1 p q m : Nat) (fa fe f : Nat → Nat)
    (CA : Hide (∀ W : World, Calls Tryd.prog 38 #[vecV (a0, a1), .int .i64 16] W fun e W' => ListPost W 8 ((List.range 8).map fa) e W'))
    (CT : Hide (∀ i, i < 8 → ∀ W : World, Calls Tryd.prog 64 #[.int .i64 16, .int .i64 32, .bool s, .int .u64 (fa i : Int)] W fun e W' => e = .returned (.tuple #[.int .u64 (fe i : Int), .int .i64 0]) ∧ W' = W))
    (CM : Hide (∀ W : World, Calls Tryd.prog 50 #[.int .i64 32] W fun e W' => e = .returned (.int .u64 (m : Int)) ∧ W' = W))
    (EQ : Hide (∀ i, i < 4 → bits .and .u64 (IntKind.u64.wrap ((fe (2 * i) : Int) + (fe (2 * i + 1) : Int))) (m : Int) = (f i : Int)))
    (CV : Hide (∀ (W : World) (g cap : Nat), XBlk W g 4 ((List.range 4).map f) → Calls Tryd.prog 40 #[.int .i64 32, .slice (some ⟨g, 0, none⟩) 4 cap] W fun e W' => e = .returned (vecV (p, q)) ∧ Below W.heap.size W W'))
    (W : World) :
    Calls Tryd.prog 29 #[.int .i64 16, .bool s, vecV (a0, a1)] W fun e W' => e = .returned (vecE ((p, q), 0)) ∧ Below W.heap.size W W' := by
  obtain ⟨i0, hi, hz0, hz1, hz2⟩ := info_parts infoW
  obtain ⟨wa, hwa⟩ : ∃ wa, (W.alloc (.cells #[.int .u64 (a0 : Int), .int .u64 (a1 : Int)] 25)).alloc (.cells #[.int .u64 0, .int .u64 0] 25) = wa := ⟨_, rfl⟩
  have VA : Hide (VBlk wa W.heap.size (a0, a1)) := hide (by rw [← hwa]; exact alloc_past (alloc_at rfl))
  have ZB : Hide (VBlk wa (W.heap.size + 1) (0, 0)) := hide (by rw [← hwa]; exact alloc_at (by simp))
  have BA : Hide (Below W.heap.size W wa) := hide (by rw [← hwa]; exact ((Below.refl _ _).alloc (Nat.le_refl _) _).alloc (by simp) _)
  have HWA := hide hwa
  clear hwa
  unfold vecV at CA CV ⊢
  simp only at CA CV ⊢
  go_enter Tryd.func29, Tryd.ntmps29
  go_wp2_with fail
  rw [HWA.out]
  refine (CA.out _).mono ?_
  rintro e w1 hpost
  obtain ⟨g1, cap1, hg1, rfl, hcap, hx, hb⟩ := list_x hpost
  have KX := hide hx
  have Z1 := hide (ZB.out.later hb ZB.out.lt)
  have B1 := hide (BA.out.trans (hb.mono BA.out.size))
  clear hx hb hpost hg1 hcap VA ZB BA HWA CA
  go_wp2_with fail
  go_loopw [9, 10] (fun v x wr => ∃ k j : Nat, j = 2 * k ∧ x = .int .i64 (j : Int) ∧ k ≤ 4 ∧ OwnW wr w1.heap.size v (pre f k) ∧ Below w1.heap.size w1 wr) (fun _ x _ => 8 - (intOf x).toNat)
  case atStart => exact ⟨0, 0, rfl, rfl, by omega, World.ownsRow_nil _ _ _ _, Below.refl _ _⟩
  case round =>
    obtain ⟨k, j, hj, rfl, hk, hown0, hbel⟩ := hrel
    have HBEL := hide hbel
    have HOWN := hide hown0
    clear hown0 hbel
    by_cases c0 : k < 4
    · have c1 : (j : Int) < 8 := by omega
      have c2 : (j : Int) + 1 < 8 := by omega
      obtain ⟨va, vc, hva⟩ := own_shape HOWN.out
      rw [pre_length] at hva
      have hown := HOWN.out
      rw [hva] at hown ⊢
      unfold OwnW at hown
      rw [pre_length] at hown
      have KW := KX.out.later HBEL.out KX.out.lt
      have hA : wr.cell? ⟨g1, j, none⟩ = some (.int .u64 (fa j : Int)) := by
        have := KW.cell j (by omega)
        rwa [show at0 ((List.range 8).map fa) j = fa j by simp [at0, List.getElem?_range (show j < 8 by omega)]] at this
      have hB : wr.cell? ⟨g1, j + 1, none⟩ = some (.int .u64 (fa (j + 1) : Int)) := by
        have := KW.cell (j + 1) (by omega)
        rwa [show at0 ((List.range 8).map fa) (j + 1) = fa (j + 1) by simp [at0, List.getElem?_range (show j + 1 < 8 by omega)]] at this
      have C3 : Hid (k + 1 ≤ maxLen) := by show k + 1 ≤ maxLen; unfold maxLen; omega
      have C4 : Hid ((k + 1) * 8 ≤ 140737488355328) := by show (k + 1) * 8 ≤ 140737488355328; omega
      have C5 : Hid (∀ o : Obj, w1.heap.size ≤ (wr.alloc o).heap.size) := by intro o; have := HBEL.out.size; simp; omega
      have PS := hide (pre_succ f k)
      have EK := EQ.out k c0
      rw [← hj] at EK
      have CK := hide (CT.out j (by omega))
      have CL := hide (CT.out (j + 1) (by omega))
      have HC : Hide (k < 4 ∧ j = 2 * k) := hide ⟨c0, hj⟩
      clear hva CT c0 hj KW EQ hk
      generalize fa j = xa at *
      generalize fa (j + 1) = xb at *
      generalize fe j = ea at *
      generalize fe (j + 1) = eb at *
      obtain ⟨y, hy⟩ : ∃ y, f k = y := ⟨_, rfl⟩
      rw [hy] at EK PS
      clear hy
      go_wp2_with (first | ((with_reducible refine (CK.out _).mono ?_); rintro e w0 ⟨rfl, hww⟩; replace hww := hww.symm; subst hww) | ((with_reducible refine (CL.out _).mono ?_); rintro e w0 ⟨rfl, hww⟩; replace hww := hww.symm; subst hww) | ((with_reducible refine (CM.out _).mono ?_); rintro e w0 ⟨rfl, hww⟩; replace hww := hww.symm; subst hww) | (at_builtin; refine wpList_append_own _ rfl _ _ 51 rfl w1.heap.size 23 i0 (.int .u64 0) 1 8 Tryd.underlying51 hi hz0 hz1 hz2 rfl (by decide) _ _ _ rfl (hown.alloc _) ⟨wr.heap.size, 0, none⟩ 1 1 [.int .u64 (y : Int)] rfl rfl (cell_one_new _ _ _) (one_cell64 _) C3.out C4.out (C5.out _) ?_))
      intro v' w3 hown' hgrow _
      have hown2 : OwnW w3 w1.heap.size v' (pre f (k + 1)) := by
        unfold OwnW
        rw [PS.out]; simpa [pre_length] using hown'
      have hbel2 : Below w1.heap.size w1 w3 := (HBEL.out.alloc HBEL.out.size _).grown hgrow (by have := HBEL.out.size; simp; omega) (fun k hk => (hown.lt k hk).1)
      have H2 := hide hown2
      have H3 := hide hbel2
      clear hown2 hbel2 hown' hgrow hown
      go_wp2
      go_roundw
      case rel => exact ⟨k + 1, j + 2, by have := HC.out.2; omega, by go_num, HC.out.1, H2.out, H3.out⟩
      case measure => have := HC.out; simp [intOf]; omega
    · obtain rfl : k = 4 := by omega
      obtain rfl : j = 8 := by omega
      obtain ⟨g, cap, cur, hg, hv, hcap, hblk, hcell⟩ := own_post HOWN.out (by rw [pre_length]; omega)
      rw [pre_length] at hv hcap hcell
      rw [hv]
      have CK := hide (CV.out wr g cap ⟨cur, hblk, hcell⟩)
      have Z2 := hide (Z1.out.later HBEL.out Z1.out.lt)
      have B2 := hide (B1.out.trans (HBEL.out.mono B1.out.size))
      clear CV CT EQ hv hg hcap hblk hcell hj c0
      go_wp2_with fail
      refine CK.out.mono ?_
      rintro e w2 ⟨rfl, hb⟩
      have Z3 := hide (Z2.out.later hb Z2.out.lt)
      have B3 := hide (B2.out.trans (hb.mono B2.out.size))
      have z := Z3.out
      have r0 : w2.cell? ⟨W.heap.size + 1, 0, none⟩ = some (.int .u64 0) := z.c0
      have r1 : w2.cell? ⟨W.heap.size + 1, 1, none⟩ = some (.int .u64 0) := z.c1
      have z0 : w2.frozen? ⟨W.heap.size + 1, 0, none⟩ = false := z.frozen 0
      have z1 : w2.frozen? ⟨W.heap.size + 1, 1, none⟩ = false := z.frozen 1
      clear z
      clear hb
      go_wp2
      refine bodyPost_ret (v := vecE ((p, q), 0)) ((Z3.out.set2 p q).result2 (by rfl) _ rfl rfl) rfl ?_
      exact ⟨rfl, (B3.out.setCell (by simp) _).setCell (by simp) _⟩

set_option maxHeartbeats 2000000 in
theorem rvp_bad (w : Int) (n8 : (w != 8) = true) (n16 : (w != 16) = true) (s : Bool) (a : Nat × Nat) (W : World) :
    Calls Tryd.prog 29 #[.int .i64 w, .bool s, vecV a] W fun e W' => e = .returned (vecE ((0, 0), 2)) ∧ Below W.heap.size W W' := by
  unfold vecV
  go_enter Tryd.func29, Tryd.ntmps29
  go_wp2
  refine bodyPost_ret (v := vecE ((0, 0), 2)) (VBlk.result2 (v := (0, 0)) (alloc_at (g := W.heap.size + 1) (by simp)) (by rfl) _ rfl rfl) rfl ?_
  exact ⟨rfl, ((Below.refl _ _).alloc (Nat.le_refl _) _).alloc (by simp) _⟩

end Go.Proofs.YtoihfmammmkloaaDoor
/-
  The document's Dot of lanes.
-/
set_option linter.unusedVariables false
set_option linter.unusedSimpArgs false
namespace Go.Proofs.YtoihfmammmkloaaDoor
open Go.RowKit Lan

def DotJ (V1 V2 : Value) (c : Nat) (A B : List Nat) (wa : World) (d : Nat → Bool) (vs : List Value) (wz : World) : Prop :=
  (d 0 = true → vs[0]?.getD undef = V1) ∧ OwnX (d 1) (vs[1]?.getD undef) wa.heap.size c A wz ∧ (d 2 = true → vs[2]?.getD undef = V2) ∧ OwnX (d 3) (vs[3]?.getD undef) wa.heap.size c B wz ∧ (d 4 = true → d 1 = true ∧ vs[4]?.getD undef = vs[1]?.getD undef) ∧ (d 5 = true → d 3 = true ∧ vs[5]?.getD undef = vs[3]?.getD undef) ∧ (d 1 = true → d 3 = true → blkOf (vs[1]?.getD undef) ≠ blkOf (vs[3]?.getD undef)) ∧ Below wa.heap.size wa wz

set_option maxRecDepth 100000 in
set_option maxHeartbeats 8000000 in
theorem rvd_walk (a0 a1 b0 b1 p q : Nat) (fa fb f : Nat → Nat) (LA : Hide (∀ i, fa i < 2 ^ 16)) (LB : Hide (∀ i, fb i < 2 ^ 16))
    (CA : Hide (∀ W : World, Calls Tryd.prog 38 #[vecV (a0, a1), .int .i64 16] W fun e W' => ListPost W 8 ((List.range 8).map fa) e W'))
    (CB : Hide (∀ W : World, Calls Tryd.prog 38 #[vecV (b0, b1), .int .i64 16] W fun e W' => ListPost W 8 ((List.range 8).map fb) e W'))
    (CT : Hide (∀ fx : Nat → Nat, (∀ i, fx i < 2 ^ 16) → ∀ i, i < 8 → ∀ W : World, Calls Tryd.prog 53 #[.int .i64 16, .int .u64 (fx i : Int)] W fun e W' => e = .returned (.int .i64 (Ints.wo 16 (fx i : Int))) ∧ W' = W))
    (CU : Hide (∀ (n : Int) (W : World), Calls Tryd.prog 65 #[.int .i64 32, .int .i64 n] W fun e W' => e = .returned (.int .u64 (Z.cutI 32 n)) ∧ W' = W))
    (EQ : Hide (∀ i, i < 4 → ∃ m1 m2 ms : Int, wrap64 (Ints.wo 16 (fa (2 * i) : Int) * Ints.wo 16 (fb (2 * i) : Int)) = m1 ∧ wrap64 (Ints.wo 16 (fa (2 * i + 1) : Int) * Ints.wo 16 (fb (2 * i + 1) : Int)) = m2 ∧ wrap64 (m1 + m2) = ms ∧ Z.cutI 32 ms = (f i : Int)))
    (CV : Hide (∀ (W : World) (g cap : Nat), XBlk W g 4 ((List.range 4).map f) → Calls Tryd.prog 40 #[.int .i64 32, .slice (some ⟨g, 0, none⟩) 4 cap] W fun e W' => e = .returned (vecV (p, q)) ∧ Below W.heap.size W W'))
    (W : World) :
    Calls Tryd.prog 31 #[vecV (a0, a1), vecV (b0, b1)] W fun e W' => e = .returned (vecE ((p, q), 0)) ∧ Below W.heap.size W W' := by
  obtain ⟨i0, hi, hz0, hz1, hz2⟩ := info_parts infoW
  obtain ⟨wa, hwa⟩ : ∃ wa, ((W.alloc (.cells #[.int .u64 (a0 : Int), .int .u64 (a1 : Int)] 25)).alloc (.cells #[.int .u64 (b0 : Int), .int .u64 (b1 : Int)] 25)).alloc (.cells #[.int .u64 0, .int .u64 0] 25) = wa := ⟨_, rfl⟩
  have VA : Hide (VBlk wa W.heap.size (a0, a1)) := hide (by rw [← hwa]; exact alloc_past (alloc_past (alloc_at rfl)))
  have VB : Hide (VBlk wa (W.heap.size + 1) (b0, b1)) := hide (by rw [← hwa]; exact alloc_past (alloc_at (by simp)))
  have ZB : Hide (VBlk wa (W.heap.size + 1 + 1) (0, 0)) := hide (by rw [← hwa]; exact alloc_at (by simp))
  have BA : Hide (Below W.heap.size W wa) := hide (by rw [← hwa]; exact (((Below.refl _ _).alloc (Nat.le_refl _) _).alloc (by simp) _).alloc (by simp; omega) _)
  have HWA := hide hwa
  clear hwa
  unfold vecV at CA CB CV ⊢
  simp only at CA CB CV ⊢
  go_enter Tryd.func31, Tryd.ntmps31
  go_wp2_with fail
  rw [HWA.out]
  refine wp_region_par [11, 12, 13, 14, 6, 7] (DotJ (.agg #[.int .u64 (a0 : Int), .int .u64 (a1 : Int)]) (.agg #[.int .u64 (b0 : Int), .int .u64 (b1 : Int)]) 8 ((List.range 8).map fa) ((List.range 8).map fb) wa) (by kernel_rfl) (by kernel_rfl) ?_ ?_ ?_
  · intro vs
    exact ⟨(fun h => by cases h), (fun h => by cases h), (fun h => by cases h), (fun h => by cases h), (fun h => by cases h), (fun h => by cases h), (fun h => by cases h), (Below.refl _ _).drew⟩
  · intro d vs w1 hd hl hJ
    match vs, hl with
    | [x0, x1, x2, x3, x4, x5], _ =>
    obtain ⟨j0, o1, j2, o3, a4, a5, u1_3, jb⟩ := hJ
    obtain rfl := j0 (hd 0 (by decide))
    obtain rfl := j2 (hd 2 (by decide))
    have e4 := (a4 (hd 4 (by decide))).2
    simp only [List.getElem?_cons_zero, List.getElem?_cons_succ, Option.getD_some] at e4
    subst e4
    have e5 := (a5 (hd 5 (by decide))).2
    simp only [List.getElem?_cons_zero, List.getElem?_cons_succ, Option.getD_some] at e5
    subst e5
    obtain ⟨g1, cap1, e1, hg1, hc1, hx1⟩ := o1 (hd 1 (by decide))
    simp only [List.getElem?_cons_zero, List.getElem?_cons_succ, Option.getD_some] at e1
    subst e1
    obtain ⟨g2, cap2, e3, hg2, hc2, hx2⟩ := o3 (hd 3 (by decide))
    simp only [List.getElem?_cons_zero, List.getElem?_cons_succ, Option.getD_some] at e3
    subst e3
    have hne : g1 ≠ g2 := u1_3 (hd 1 (by decide)) (hd 3 (by decide))
    have JB := hide jb
    have K1 := hide hx1
    have K2 := hide hx2
    clear hd hl jb j0 o1 j2 o3 a4 a5 u1_3 hx1 hx2
    simp only [putL, Act.put, List.setIfInBounds_toArray, List.set_cons_succ, List.set_cons_zero]
    have Z1 := hide (ZB.out.later JB.out ZB.out.lt)
    have B1 := hide (BA.out.trans (JB.out.mono BA.out.size))
    clear JB VA VB ZB BA HWA CA CB hne hg1 hg2 hc1 hc2
    go_wp2_with fail
    go_loopw [8, 9] (fun v x wr => ∃ k j : Nat, j = 2 * k ∧ x = .int .i64 (j : Int) ∧ k ≤ 4 ∧ OwnW wr w1.heap.size v (pre f k) ∧ Below w1.heap.size w1 wr) (fun _ x _ => 8 - (intOf x).toNat)
    case atStart => exact ⟨0, 0, rfl, rfl, by omega, World.ownsRow_nil _ _ _ _, Below.refl _ _⟩
    case round =>
      obtain ⟨k, j, hj, rfl, hk, hown0, hbel⟩ := hrel
      have HBEL := hide hbel
      have HOWN := hide hown0
      clear hown0 hbel
      by_cases c0 : k < 4
      · have c1 : (j : Int) < 8 := by omega
        have c2 : (j : Int) + 1 < 8 := by omega
        obtain ⟨va, vc, hva⟩ := own_shape HOWN.out
        rw [pre_length] at hva
        have hown := HOWN.out
        rw [hva] at hown ⊢
        unfold OwnW at hown
        rw [pre_length] at hown
        have KA := K1.out.later HBEL.out K1.out.lt
        have KB := K2.out.later HBEL.out K2.out.lt
        have hA : wr.cell? ⟨g1, j, none⟩ = some (.int .u64 (fa j : Int)) := by
          have := KA.cell j (by omega)
          rwa [show at0 ((List.range 8).map fa) j = fa j by simp [at0, List.getElem?_range (show j < 8 by omega)]] at this
        have hA2 : wr.cell? ⟨g1, j + 1, none⟩ = some (.int .u64 (fa (j + 1) : Int)) := by
          have := KA.cell (j + 1) (by omega)
          rwa [show at0 ((List.range 8).map fa) (j + 1) = fa (j + 1) by simp [at0, List.getElem?_range (show j + 1 < 8 by omega)]] at this
        have hB : wr.cell? ⟨g2, j, none⟩ = some (.int .u64 (fb j : Int)) := by
          have := KB.cell j (by omega)
          rwa [show at0 ((List.range 8).map fb) j = fb j by simp [at0, List.getElem?_range (show j < 8 by omega)]] at this
        have hB2 : wr.cell? ⟨g2, j + 1, none⟩ = some (.int .u64 (fb (j + 1) : Int)) := by
          have := KB.cell (j + 1) (by omega)
          rwa [show at0 ((List.range 8).map fb) (j + 1) = fb (j + 1) by simp [at0, List.getElem?_range (show j + 1 < 8 by omega)]] at this
        have C3 : Hid (k + 1 ≤ maxLen) := by show k + 1 ≤ maxLen; unfold maxLen; omega
        have C4 : Hid ((k + 1) * 8 ≤ 140737488355328) := by show (k + 1) * 8 ≤ 140737488355328; omega
        have C5 : Hid (∀ (n : Nat) (o : Obj), w1.heap.size ≤ ((wr.drewN n).alloc o).heap.size) := by intro n o; have := HBEL.out.size; simp; omega
        have PS := hide (pre_succ f k)
        obtain ⟨m1, m2, ms, E1, E2, E3, E4⟩ := EQ.out k c0
        rw [← hj] at E1 E2
        have C1 := hide (CT.out fa LA.out j (by omega))
        have C2 := hide (CT.out fb LB.out j (by omega))
        have D1 := hide (CT.out fa LA.out (j + 1) (by omega))
        have D2 := hide (CT.out fb LB.out (j + 1) (by omega))
        have CN := hide (CU.out ms)
        rw [E4] at CN
        have HC : Hide (k < 4 ∧ j = 2 * k) := hide ⟨c0, hj⟩
        clear hva CT c0 hj KA KB EQ hk CU E4 LA LB
        generalize fa j = xa at *
        generalize fa (j + 1) = xa2 at *
        generalize fb j = xb at *
        generalize fb (j + 1) = xb2 at *
        generalize Ints.wo 16 (xa : Int) = t1 at *
        generalize Ints.wo 16 (xb : Int) = t2 at *
        generalize Ints.wo 16 (xa2 : Int) = t3 at *
        generalize Ints.wo 16 (xb2 : Int) = t4 at *
        obtain ⟨y, hy⟩ : ∃ y, f k = y := ⟨_, rfl⟩
        rw [hy] at CN PS
        clear hy
        go_wp2_with fail
        go_quiet (first | with_reducible refine Calls.quiet_of_same (C1.out _) | with_reducible refine Calls.quiet_of_same (C2.out _) | with_reducible refine Calls.quiet_of_same (D1.out _) | with_reducible refine Calls.quiet_of_same (D2.out _))
        have hownq : ((wr.drewN nq)).ownsRow w1.heap.size 23 1 (.slice va k vc) k ((pre f k).map fun n : Nat => Value.int .u64 (n : Int)) := hown
        go_wp2_with (first | ((with_reducible refine (CN.out _).mono ?_); rintro e w0 ⟨rfl, hww⟩; replace hww := hww.symm; subst hww) | (at_builtin; refine wpList_append_own _ rfl _ _ 51 rfl w1.heap.size 23 i0 (.int .u64 0) 1 8 Tryd.underlying51 hi hz0 hz1 hz2 rfl (by decide) _ _ _ rfl (hownq.alloc _) ⟨(wr.drewN nq).heap.size, 0, none⟩ 1 1 [.int .u64 (y : Int)] rfl rfl (cell_one_new _ _ _) (one_cell64 _) C3.out C4.out (C5.out _ _) ?_))
        intro v' w3 hown' hgrow _
        have hown2 : OwnW w3 w1.heap.size v' (pre f (k + 1)) := by
          unfold OwnW
          rw [PS.out]; simpa [pre_length] using hown'
        have hbel2 : Below w1.heap.size w1 w3 := ((below_drewNq HBEL.out nq).alloc HBEL.out.size _).grown hgrow (by have := HBEL.out.size; simp; omega) (fun k hk => (hown.lt k hk).1)
        have H2 := hide hown2
        have H3 := hide hbel2
        clear hown2 hbel2 hown' hgrow hown hownq
        go_wp2
        go_roundw
        case rel => exact ⟨k + 1, j + 2, by have := HC.out.2; omega, by go_num, HC.out.1, H2.out, H3.out⟩
        case measure => have := HC.out; simp [intOf]; omega
      · obtain rfl : k = 4 := by omega
        obtain rfl : j = 8 := by omega
        obtain ⟨g, cap, cur, hg, hv, hcap, hblk, hcell⟩ := own_post HOWN.out (by rw [pre_length]; omega)
        rw [pre_length] at hv hcap hcell
        rw [hv]
        have CK := hide (CV.out wr g cap ⟨cur, hblk, hcell⟩)
        have Z2 := hide (Z1.out.later HBEL.out Z1.out.lt)
        have B2 := hide (B1.out.trans (HBEL.out.mono B1.out.size))
        clear CV CT EQ hv hg hcap hblk hcell hj c0
        go_wp2_with fail
        refine CK.out.mono ?_
        rintro e w2 ⟨rfl, hb⟩
        have Z3 := hide (Z2.out.later hb Z2.out.lt)
        have B3 := hide (B2.out.trans (hb.mono B2.out.size))
        have z := Z3.out
        have r0 : w2.cell? ⟨W.heap.size + 1 + 1, 0, none⟩ = some (.int .u64 0) := z.c0
        have r1 : w2.cell? ⟨W.heap.size + 1 + 1, 1, none⟩ = some (.int .u64 0) := z.c1
        have z0 : w2.frozen? ⟨W.heap.size + 1 + 1, 0, none⟩ = false := z.frozen 0
        have z1 : w2.frozen? ⟨W.heap.size + 1 + 1, 1, none⟩ = false := z.frozen 1
        clear z
        clear hb
        go_wp2
        refine bodyPost_ret (v := vecE ((p, q), 0)) ((Z3.out.set2 p q).result2 (by rfl) _ rfl rfl) rfl ?_
        exact ⟨rfl, (B3.out.setCell (by simp; omega) _).setCell (by simp; omega) _⟩
  · intro i o ho d vs w hl hJ hi hw
    match vs, hl with
    | [x0, x1, x2, x3, x4, x5], _ =>
    have hin : i < 6 := (List.getElem?_eq_some_iff.1 ho).1
    obtain ⟨j0, o1, j2, o3, a4, a5, u1_3, jb⟩ := hJ
    simp only [List.getElem?_cons_zero, List.getElem?_cons_succ, Option.some.injEq, Option.getD_some] at j0 o1 j2 o3 a4 a5 u1_3
    rcases (show i = 0 ∨ i = 1 ∨ i = 2 ∨ i = 3 ∨ i = 4 ∨ i = 5 by omega) with rfl | rfl | rfl | rfl | rfl | rfl
    · simp only [List.getElem?_cons_zero, List.getElem?_cons_succ, Option.some.injEq] at ho
      subst ho
      have h0 := (VA.out.later jb VA.out.lt).c0
      have h1 := (VA.out.later jb VA.out.lt).c1
      simp only [putL, Act.put, List.setIfInBounds_toArray, List.set_cons_succ, List.set_cons_zero] at h0 h1 ⊢
      go_wp2
      exact ⟨rfl, [_, x1, x2, x3, x4, x5], rfl, (by simp only [putL, Act.put, List.setIfInBounds_toArray, List.set_cons_succ, List.set_cons_zero]), (fun _ => rfl), o1, j2, o3, a4, a5, u1_3, jb⟩
    · simp only [List.getElem?_cons_zero, List.getElem?_cons_succ, Option.some.injEq] at ho
      subst ho
      obtain rfl := j0 (List.all_eq_true.1 hw 0 (by decide))
      simp only [putL, Act.put, List.setIfInBounds_toArray, List.set_cons_succ, List.set_cons_zero]
      go_wp2_with ((with_reducible refine (CA.out _).mono ?_); rintro e w1 hpost; obtain ⟨g, cap, hg, rfl, hcap, hx, hb⟩ := list_x hpost)
      exact ⟨rfl, [_, _, x2, x3, x4, x5], rfl, (by simp only [putL, Act.put, List.setIfInBounds_toArray, List.set_cons_succ, List.set_cons_zero]), (fun _ => rfl), (fun _ => ⟨g, cap, rfl, Nat.le_trans jb.size hg, hcap, hx⟩), j2, (o3.later hb), (fun h => nomatch ((a4 h).1.symm.trans hi)), a5, (fun _ h => Ne.symm (o3.ne h hg)), jb.trans (hb.mono jb.size)⟩
    · simp only [List.getElem?_cons_zero, List.getElem?_cons_succ, Option.some.injEq] at ho
      subst ho
      have h0 := (VB.out.later jb VB.out.lt).c0
      have h1 := (VB.out.later jb VB.out.lt).c1
      simp only [putL, Act.put, List.setIfInBounds_toArray, List.set_cons_succ, List.set_cons_zero] at h0 h1 ⊢
      go_wp2
      exact ⟨rfl, [x0, x1, _, x3, x4, x5], rfl, (by simp only [putL, Act.put, List.setIfInBounds_toArray, List.set_cons_succ, List.set_cons_zero]), j0, o1, (fun _ => rfl), o3, a4, a5, u1_3, jb⟩
    · simp only [List.getElem?_cons_zero, List.getElem?_cons_succ, Option.some.injEq] at ho
      subst ho
      obtain rfl := j2 (List.all_eq_true.1 hw 2 (by decide))
      simp only [putL, Act.put, List.setIfInBounds_toArray, List.set_cons_succ, List.set_cons_zero]
      go_wp2_with ((with_reducible refine (CB.out _).mono ?_); rintro e w1 hpost; obtain ⟨g, cap, hg, rfl, hcap, hx, hb⟩ := list_x hpost)
      exact ⟨rfl, [x0, x1, _, _, x4, x5], rfl, (by simp only [putL, Act.put, List.setIfInBounds_toArray, List.set_cons_succ, List.set_cons_zero]), j0, (o1.later hb), (fun _ => rfl), (fun _ => ⟨g, cap, rfl, Nat.le_trans jb.size hg, hcap, hx⟩), a4, (fun h => nomatch ((a5 h).1.symm.trans hi)), (fun h _ => o1.ne h hg), jb.trans (hb.mono jb.size)⟩
    · simp only [List.getElem?_cons_zero, List.getElem?_cons_succ, Option.some.injEq] at ho
      subst ho
      have hd : d 1 = true := List.all_eq_true.1 hw 1 (by decide)
      simp only [putL, Act.put, List.setIfInBounds_toArray, List.set_cons_succ, List.set_cons_zero]
      go_wp2
      exact ⟨rfl, [x0, x1, x2, x3, _, x5], rfl, (by simp only [putL, Act.put, List.setIfInBounds_toArray, List.set_cons_succ, List.set_cons_zero]), j0, o1, j2, o3, (fun _ => ⟨hd, rfl⟩), a5, u1_3, jb⟩
    · simp only [List.getElem?_cons_zero, List.getElem?_cons_succ, Option.some.injEq] at ho
      subst ho
      have hd : d 3 = true := List.all_eq_true.1 hw 3 (by decide)
      simp only [putL, Act.put, List.setIfInBounds_toArray, List.set_cons_succ, List.set_cons_zero]
      go_wp2
      exact ⟨rfl, [x0, x1, x2, x3, x4, _], rfl, (by simp only [putL, Act.put, List.setIfInBounds_toArray, List.set_cons_succ, List.set_cons_zero]), j0, o1, j2, o3, a4, (fun _ => ⟨hd, rfl⟩), u1_3, jb⟩

end Go.Proofs.YtoihfmammmkloaaDoor
/-
  The document's Narrow, Wide, Times, Pairs, Dot of lanes: all of them.
-/
set_option linter.unusedVariables false
set_option linter.unusedSimpArgs false
namespace Go.Proofs.YtoihfmammmkloaaDoor
open Go.RowKit Lan

theorem nar_of (f t : Nat) (s : Bool) (a : Int) : Z.Of t (Z.narV f t s a) := by
  have hp : (0 : Int) < 2 ^ t := by exact_mod_cast Nat.two_pow_pos t
  cases s with
  | true => exact cut_of _ _
  | false =>
    show Z.Of t (min (max (Ints.wo f a) 0) (Z.mo t))
    unfold Z.mo
    exact ⟨by omega, by omega⟩
theorem ext_of {f t : Nat} (h : f ≤ t) (s : Bool) {a : Int} (ha : Z.Of f a) : Z.Of t (Z.extV f t s a) := by
  cases s with
  | true => exact cut_of _ _
  | false =>
    show Z.Of t a
    have hp : 2 ^ f ≤ 2 ^ t := Nat.pow_le_pow_right (by decide) h
    have hp2 : (2 ^ f : Int) ≤ 2 ^ t := by exact_mod_cast hp
    exact ⟨ha.1, Int.lt_of_lt_of_le ha.2 hp2⟩
theorem zok {w : Nat} (hw : IsW w) {n : Nat} (h : n < 2 ^ w) : Z.ok1 (w : Int) (n : Int) = true := Z.ok1_of (zw hw) (zof h)

theorem nar_call {f t : Nat} (hf : IsW f) (ht : IsW t) (h : t < f) (s : Bool) (n : Nat) (hn : n < 2 ^ f) (W : World) :
    Calls Tryd.prog 58 #[.int .i64 (f : Int), .int .i64 (t : Int), .bool s, .int .u64 (n : Int)] W fun e W' => e = .returned (.tuple #[.int .u64 (((Z.narV f t s (n : Int)).toNat : Nat) : Int), .int .i64 0]) ∧ W' = W := by
  have := Z.RNarrow_calls (f : Int) (t : Int) s (n : Int) (by omega) W
  unfold Z.pairV Z.nar at this
  rw [if_pos ⟨zok hf hn, (isW_iff t).2 ⟨t, rfl, ht⟩, by omega⟩] at this
  rw [(zlt (nar_of f t s (n : Int))).2]
  exact this
theorem ext_call {f t : Nat} (hf : IsW f) (ht : IsW t) (h : f ≤ t) (s : Bool) (n : Nat) (hn : n < 2 ^ f) (W : World) :
    Calls Tryd.prog 64 #[.int .i64 (f : Int), .int .i64 (t : Int), .bool s, .int .u64 (n : Int)] W fun e W' => e = .returned (.tuple #[.int .u64 (((Z.extV f t s (n : Int)).toNat : Nat) : Int), .int .i64 0]) ∧ W' = W := by
  have := Z.RExtend_calls (f : Int) (t : Int) s (n : Int) (by omega) W
  unfold Z.pairV Z.ext at this
  rw [if_pos ⟨zok hf hn, (isW_iff t).2 ⟨t, rfl, ht⟩, by omega⟩] at this
  rw [(zlt (ext_of h s (zof hn))).2]
  exact this

theorem rvn_calls (w : Int) (s : Bool) (a b : Nat × Nat) (W : World) :
    Calls Tryd.prog 23 #[.int .i64 w, .bool s, vecV a, vecV b] W fun e W' => e = .returned (vecE (vnar w s a b)) ∧ Below W.heap.size W W' := by
  unfold vnar
  by_cases h16 : w = 16
  · subst h16
    have hj : ∀ i, joinF 8 (laneN a 16) (laneN b 16) i < 2 ^ 16 := fun i => by
      unfold joinF
      split
      · exact laneN_lt _ _ _
      · exact laneN_lt _ _ _
    have hf : ∀ i, i < 16 → vnarN 16 s a b i < 2 ^ 8 := fun i _ => (zlt (nar_of 16 8 s _)).1
    have CV := fun W g cap h => vec_call (w := 8) (c := 16) (.inl rfl) rfl hf W g cap h
    show Calls _ _ _ _ fun e W' => e = .returned (vecE (vlanes 8 (vnarN 16 s a b), 0)) ∧ _
    obtain ⟨⟨p, q⟩, hF⟩ : ∃ F, vlanes 8 (vnarN 16 s a b) = F := ⟨_, rfl⟩
    rw [hF] at CV ⊢
    exact rvn_16 s a.1 a.2 b.1 b.2 p q (laneN a 16) (laneN b 16) (vnarN 16 s a b) (hide fun W => rlist_own (w := 16) (c := 8) (.inr (.inl rfl)) rfl a W) (hide fun W => rlist_own (w := 16) (c := 8) (.inr (.inl rfl)) rfl b W)
      (hide fun i _ W => nar_call (f := 16) (t := 8) (.inr (.inl rfl)) (.inl rfl) (by decide) s _ (hj i) W) (hide CV) W
  · by_cases h32 : w = 32
    · subst h32
      have hj : ∀ i, joinF 4 (laneN a 32) (laneN b 32) i < 2 ^ 32 := fun i => by
        unfold joinF
        split
        · exact laneN_lt _ _ _
        · exact laneN_lt _ _ _
      have hf : ∀ i, i < 8 → vnarN 32 s a b i < 2 ^ 16 := fun i _ => (zlt (nar_of 32 16 s _)).1
      have CV := fun W g cap h => vec_call (w := 16) (c := 8) (.inr (.inl rfl)) rfl hf W g cap h
      show Calls _ _ _ _ fun e W' => e = .returned (vecE (vlanes 16 (vnarN 32 s a b), 0)) ∧ _
      obtain ⟨⟨p, q⟩, hF⟩ : ∃ F, vlanes 16 (vnarN 32 s a b) = F := ⟨_, rfl⟩
      rw [hF] at CV ⊢
      exact rvn_32 s a.1 a.2 b.1 b.2 p q (laneN a 32) (laneN b 32) (vnarN 32 s a b) (hide fun W => rlist_own (w := 32) (c := 4) (.inr (.inr (.inl rfl))) rfl a W) (hide fun W => rlist_own (w := 32) (c := 4) (.inr (.inr (.inl rfl))) rfl b W)
        (hide fun i _ W => nar_call (f := 32) (t := 16) (.inr (.inr (.inl rfl))) (.inr (.inl rfl)) (by decide) s _ (hj i) W) (hide CV) W
    · have e : (w == 16 || w == 32) = false := by simp [h16, h32]
      rw [e]
      exact rvn_bad w s (by simpa using h16) (by simpa using h32) a b W

theorem own_list {W W' : World} {f : Nat → Nat} {n : Nat} {e : Ending} (hn : 1 ≤ n) (h : ListOwn W (pre f n) e W') : ListPost W n ((List.range n).map f) e W' := by
  obtain ⟨u, he, ho, hb⟩ := h
  obtain ⟨g, cap, cur, hg, hv, hcap, hblk, hcell⟩ := own_post ho (by rw [pre_length]; exact hn)
  rw [pre_length] at hv hcap hcell
  exact ⟨g, cap, cur, hg, by rw [he, hv], hcap, hblk, hcell, hb⟩

theorem wide_8 (s h : Bool) (a : Nat × Nat) (W : World) :
    Calls Tryd.prog 62 #[.int .i64 8, .bool s, .bool h, vecV a] W fun e W' => ListPost W 8 ((List.range 8).map (vwideN 8 s h a)) e W' := by
  have CA := hide fun W => list_call (w := 8) (c := 16) (.inl rfl) rfl a W
  have CT := fun (i : Nat) W => ext_call (f := 8) (t := 16) (.inl rfl) (.inr (.inl rfl)) (by decide) s (laneN a 8 i) (laneN_lt _ _ _) W
  cases h with
  | false => exact (rww_8_lo s a.1 a.2 (laneN a 8) (vwideN 8 s false a) CA (hide fun i _ W => CT i W) W).mono fun e W' hp => own_list (by decide) hp
  | true => exact (rww_8_hi s a.1 a.2 (laneN a 8) (vwideN 8 s true a) CA (hide fun i _ W => CT (i + 8) W) W).mono fun e W' hp => own_list (by decide) hp
theorem wide_lt_8 (s h : Bool) (a : Nat × Nat) (i : Nat) : vwideN 8 s h a i < 2 ^ 16 := (zlt (ext_of (by decide) s (zof (laneN_lt _ _ _)))).1

theorem wide_16 (s h : Bool) (a : Nat × Nat) (W : World) :
    Calls Tryd.prog 62 #[.int .i64 16, .bool s, .bool h, vecV a] W fun e W' => ListPost W 4 ((List.range 4).map (vwideN 16 s h a)) e W' := by
  have CA := hide fun W => list_call (w := 16) (c := 8) (.inr (.inl rfl)) rfl a W
  have CT := fun (i : Nat) W => ext_call (f := 16) (t := 32) (.inr (.inl rfl)) (.inr (.inr (.inl rfl))) (by decide) s (laneN a 16 i) (laneN_lt _ _ _) W
  cases h with
  | false => exact (rww_16_lo s a.1 a.2 (laneN a 16) (vwideN 16 s false a) CA (hide fun i _ W => CT i W) W).mono fun e W' hp => own_list (by decide) hp
  | true => exact (rww_16_hi s a.1 a.2 (laneN a 16) (vwideN 16 s true a) CA (hide fun i _ W => CT (i + 4) W) W).mono fun e W' hp => own_list (by decide) hp
theorem wide_lt_16 (s h : Bool) (a : Nat × Nat) (i : Nat) : vwideN 16 s h a i < 2 ^ 32 := (zlt (ext_of (by decide) s (zof (laneN_lt _ _ _)))).1

theorem wide_32 (s h : Bool) (a : Nat × Nat) (W : World) :
    Calls Tryd.prog 62 #[.int .i64 32, .bool s, .bool h, vecV a] W fun e W' => ListPost W 2 ((List.range 2).map (vwideN 32 s h a)) e W' := by
  have CA := hide fun W => list_call (w := 32) (c := 4) (.inr (.inr (.inl rfl))) rfl a W
  have CT := fun (i : Nat) W => ext_call (f := 32) (t := 64) (.inr (.inr (.inl rfl))) (.inr (.inr (.inr rfl))) (by decide) s (laneN a 32 i) (laneN_lt _ _ _) W
  cases h with
  | false => exact (rww_32_lo s a.1 a.2 (laneN a 32) (vwideN 32 s false a) CA (hide fun i _ W => CT i W) W).mono fun e W' hp => own_list (by decide) hp
  | true => exact (rww_32_hi s a.1 a.2 (laneN a 32) (vwideN 32 s true a) CA (hide fun i _ W => CT (i + 2) W) W).mono fun e W' hp => own_list (by decide) hp
theorem wide_lt_32 (s h : Bool) (a : Nat × Nat) (i : Nat) : vwideN 32 s h a i < 2 ^ 64 := (zlt (ext_of (by decide) s (zof (laneN_lt _ _ _)))).1

theorem and_most {w : Nat} (hw : IsW w) (n : Nat) : bits .and .u64 (IntKind.u64.wrap (n : Int)) ((2 ^ w - 1 : Nat) : Int) = ((n % 2 ^ w : Nat) : Int) := by
  have e : IntKind.u64.wrap (n : Int) = ((n % 18446744073709551616 : Nat) : Int) := by rw [IntKind.wrap_u64]; omega
  rw [e, ← mo_nat, and_mo hw _ (Nat.mod_lt _ (by decide))]
  congr 1
  rcases hw with rfl | rfl | rfl | rfl <;> exact Nat.mod_mod_of_dvd n (by decide)

theorem isW3_cases {w : Int} (h : isW3 w = true) : w = 8 ∨ w = 16 ∨ w = 32 := by
  unfold isW3 at h
  simp at h
  omega
theorem isW3_not {w : Int} (h : isW3 w = false) : (w != 8) = true ∧ (w != 16) = true ∧ (w != 32) = true := by
  unfold isW3 at h
  simp at h ⊢
  omega

theorem rvw_calls (w : Int) (s h : Bool) (a : Nat × Nat) (W : World) :
    Calls Tryd.prog 25 #[.int .i64 w, .bool s, .bool h, vecV a] W fun e W' => e = .returned (vecE (vwide w s h a)) ∧ Below W.heap.size W W' := by
  unfold vwide
  cases hw : isW3 w with
  | false =>
    obtain ⟨n8, n16, n32⟩ := isW3_not hw
    exact rvw_bad w n8 n16 n32 s h a W
  | true =>
    rcases isW3_cases hw with rfl | rfl | rfl
    · have CV := fun W g cap hx => vec_call (w := 16) (c := 8) (.inr (.inl rfl)) rfl (fun i _ => wide_lt_8 s h a i) W g cap hx
      show Calls _ _ _ _ fun e W' => e = .returned (vecE (vlanes 16 (vwideN 8 s h a), 0)) ∧ _
      obtain ⟨⟨p, q⟩, hF⟩ : ∃ F, vlanes 16 (vwideN 8 s h a) = F := ⟨_, rfl⟩
      rw [hF] at CV ⊢
      exact rvw_8 s h a.1 a.2 p q (vwideN 8 s h a) (hide (wide_8 s h a)) (hide CV) W
    · have CV := fun W g cap hx => vec_call (w := 32) (c := 4) (.inr (.inr (.inl rfl))) rfl (fun i _ => wide_lt_16 s h a i) W g cap hx
      show Calls _ _ _ _ fun e W' => e = .returned (vecE (vlanes 32 (vwideN 16 s h a), 0)) ∧ _
      obtain ⟨⟨p, q⟩, hF⟩ : ∃ F, vlanes 32 (vwideN 16 s h a) = F := ⟨_, rfl⟩
      rw [hF] at CV ⊢
      exact rvw_16 s h a.1 a.2 p q (vwideN 16 s h a) (hide (wide_16 s h a)) (hide CV) W
    · have CV := fun W g cap hx => vec_call (w := 64) (c := 2) (.inr (.inr (.inr rfl))) rfl (fun i _ => wide_lt_32 s h a i) W g cap hx
      show Calls _ _ _ _ fun e W' => e = .returned (vecE (vlanes 64 (vwideN 32 s h a), 0)) ∧ _
      obtain ⟨⟨p, q⟩, hF⟩ : ∃ F, vlanes 64 (vwideN 32 s h a) = F := ⟨_, rfl⟩
      rw [hF] at CV ⊢
      exact rvw_32 s h a.1 a.2 p q (vwideN 32 s h a) (hide (wide_32 s h a)) (hide CV) W

theorem rvx_calls (w : Int) (s h : Bool) (a b : Nat × Nat) (W : World) :
    Calls Tryd.prog 27 #[.int .i64 w, .bool s, .bool h, vecV a, vecV b] W fun e W' => e = .returned (vecE (vtimes w s h a b)) ∧ Below W.heap.size W W' := by
  unfold vtimes
  cases hw : isW3 w with
  | false =>
    obtain ⟨n8, n16, n32⟩ := isW3_not hw
    exact rvx_bad w n8 n16 n32 s h a b W
  | true =>
    rcases isW3_cases hw with rfl | rfl | rfl
    · have CV := fun W g cap hx => vec_call (w := 16) (c := 8) (.inr (.inl rfl)) rfl (f := vtimesN 8 s h a b) (fun i _ => Nat.mod_lt _ (Nat.two_pow_pos 16)) W g cap hx
      show Calls _ _ _ _ fun e W' => e = .returned (vecE (vlanes 16 (vtimesN 8 s h a b), 0)) ∧ _
      obtain ⟨⟨p, q⟩, hF⟩ : ∃ F, vlanes 16 (vtimesN 8 s h a b) = F := ⟨_, rfl⟩
      rw [hF] at CV ⊢
      refine rvx_8 s h a.1 a.2 b.1 b.2 p q (2 ^ 16 - 1) (vwideN 8 s h a) (vwideN 8 s h b) (vtimesN 8 s h a b) (hide (wide_8 s h a)) (hide (wide_8 s h b)) (hide (most_nat (w := 16) (.inr (.inl rfl)))) (hide fun i _ => ?_) (hide CV) W
      have := and_most (w := 16) (.inr (.inl rfl)) (vwideN 8 s h a i * vwideN 8 s h b i)
      rw [Int.natCast_mul] at this
      exact this
    · have CV := fun W g cap hx => vec_call (w := 32) (c := 4) (.inr (.inr (.inl rfl))) rfl (f := vtimesN 16 s h a b) (fun i _ => Nat.mod_lt _ (Nat.two_pow_pos 32)) W g cap hx
      show Calls _ _ _ _ fun e W' => e = .returned (vecE (vlanes 32 (vtimesN 16 s h a b), 0)) ∧ _
      obtain ⟨⟨p, q⟩, hF⟩ : ∃ F, vlanes 32 (vtimesN 16 s h a b) = F := ⟨_, rfl⟩
      rw [hF] at CV ⊢
      refine rvx_16 s h a.1 a.2 b.1 b.2 p q (2 ^ 32 - 1) (vwideN 16 s h a) (vwideN 16 s h b) (vtimesN 16 s h a b) (hide (wide_16 s h a)) (hide (wide_16 s h b)) (hide (most_nat (w := 32) (.inr (.inr (.inl rfl))))) (hide fun i _ => ?_) (hide CV) W
      have := and_most (w := 32) (.inr (.inr (.inl rfl))) (vwideN 16 s h a i * vwideN 16 s h b i)
      rw [Int.natCast_mul] at this
      exact this
    · have CV := fun W g cap hx => vec_call (w := 64) (c := 2) (.inr (.inr (.inr rfl))) rfl (f := vtimesN 32 s h a b) (fun i _ => Nat.mod_lt _ (Nat.two_pow_pos 64)) W g cap hx
      show Calls _ _ _ _ fun e W' => e = .returned (vecE (vlanes 64 (vtimesN 32 s h a b), 0)) ∧ _
      obtain ⟨⟨p, q⟩, hF⟩ : ∃ F, vlanes 64 (vtimesN 32 s h a b) = F := ⟨_, rfl⟩
      rw [hF] at CV ⊢
      refine rvx_32 s h a.1 a.2 b.1 b.2 p q (2 ^ 64 - 1) (vwideN 32 s h a) (vwideN 32 s h b) (vtimesN 32 s h a b) (hide (wide_32 s h a)) (hide (wide_32 s h b)) (hide (most_nat (w := 64) (.inr (.inr (.inr rfl))))) (hide fun i _ => ?_) (hide CV) W
      have := and_most (w := 64) (.inr (.inr (.inr rfl))) (vwideN 32 s h a i * vwideN 32 s h b i)
      rw [Int.natCast_mul] at this
      exact this

theorem rvp_calls (w : Int) (s : Bool) (a : Nat × Nat) (W : World) :
    Calls Tryd.prog 29 #[.int .i64 w, .bool s, vecV a] W fun e W' => e = .returned (vecE (vpairs w s a)) ∧ Below W.heap.size W W' := by
  unfold vpairs
  by_cases h8 : w = 8
  · subst h8
    have CV := fun W g cap hx => vec_call (w := 16) (c := 8) (.inr (.inl rfl)) rfl (f := vpairsN 8 s a) (fun i _ => Nat.mod_lt _ (Nat.two_pow_pos 16)) W g cap hx
    show Calls _ _ _ _ fun e W' => e = .returned (vecE (vlanes 16 (vpairsN 8 s a), 0)) ∧ _
    obtain ⟨⟨p, q⟩, hF⟩ : ∃ F, vlanes 16 (vpairsN 8 s a) = F := ⟨_, rfl⟩
    rw [hF] at CV ⊢
    refine rvp_8 s a.1 a.2 p q (2 ^ 16 - 1) (laneN a 8) (fun i => (Z.extV 8 16 s (laneN a 8 i : Int)).toNat) (vpairsN 8 s a) (hide fun W => list_call (w := 8) (c := 16) (.inl rfl) rfl a W) (hide fun i _ W => ext_call (f := 8) (t := 16) (.inl rfl) (.inr (.inl rfl)) (by decide) s (laneN a 8 i) (laneN_lt _ _ _) W) (hide (most_nat (w := 16) (.inr (.inl rfl)))) (hide fun i _ => ?_) (hide CV) W
    have := and_most (w := 16) (.inr (.inl rfl)) ((Z.extV 8 16 s (laneN a 8 (2 * i) : Int)).toNat + (Z.extV 8 16 s (laneN a 8 (2 * i + 1) : Int)).toNat)
    rw [Int.natCast_add] at this
    exact this
  · by_cases h16 : w = 16
    · subst h16
      have CV := fun W g cap hx => vec_call (w := 32) (c := 4) (.inr (.inr (.inl rfl))) rfl (f := vpairsN 16 s a) (fun i _ => Nat.mod_lt _ (Nat.two_pow_pos 32)) W g cap hx
      show Calls _ _ _ _ fun e W' => e = .returned (vecE (vlanes 32 (vpairsN 16 s a), 0)) ∧ _
      obtain ⟨⟨p, q⟩, hF⟩ : ∃ F, vlanes 32 (vpairsN 16 s a) = F := ⟨_, rfl⟩
      rw [hF] at CV ⊢
      refine rvp_16 s a.1 a.2 p q (2 ^ 32 - 1) (laneN a 16) (fun i => (Z.extV 16 32 s (laneN a 16 i : Int)).toNat) (vpairsN 16 s a) (hide fun W => list_call (w := 16) (c := 8) (.inr (.inl rfl)) rfl a W) (hide fun i _ W => ext_call (f := 16) (t := 32) (.inr (.inl rfl)) (.inr (.inr (.inl rfl))) (by decide) s (laneN a 16 i) (laneN_lt _ _ _) W) (hide (most_nat (w := 32) (.inr (.inr (.inl rfl))))) (hide fun i _ => ?_) (hide CV) W
      have := and_most (w := 32) (.inr (.inr (.inl rfl))) ((Z.extV 16 32 s (laneN a 16 (2 * i) : Int)).toNat + (Z.extV 16 32 s (laneN a 16 (2 * i + 1) : Int)).toNat)
      rw [Int.natCast_add] at this
      exact this
    · have e : (w == 8 || w == 16) = false := by simp [h8, h16]
      rw [e]
      exact rvp_bad w (by simpa using h8) (by simpa using h16) s a W

theorem wo_bound {x : Nat} (h : x < 2 ^ 16) : -32768 ≤ Ints.wo 16 (x : Int) ∧ Ints.wo 16 (x : Int) ≤ 32767 := by
  unfold Ints.wo
  split <;> omega
theorem mul_bound {x y : Int} (hx : -32768 ≤ x ∧ x ≤ 32767) (hy : -32768 ≤ y ∧ y ≤ 32767) : -1073741824 ≤ x * y ∧ x * y ≤ 1073741824 := by
  have h1 : x.natAbs ≤ 32768 := by omega
  have h2 : y.natAbs ≤ 32768 := by omega
  have h3 : x.natAbs * y.natAbs ≤ 32768 * 32768 := Nat.mul_le_mul h1 h2
  rw [← Int.natAbs_mul] at h3
  omega
theorem wrap_small {x : Int} (h : -4294967296 ≤ x ∧ x ≤ 4294967296) : wrap64 x = x := by unfold wrap64; omega

theorem rvd_calls (a b : Nat × Nat) (W : World) :
    Calls Tryd.prog 31 #[vecV a, vecV b] W fun e W' => e = .returned (vecE (vdot a b)) ∧ Below W.heap.size W W' := by
  unfold vdot
  have CV := fun W g cap hx => vec_call (w := 32) (c := 4) (.inr (.inr (.inl rfl))) rfl (f := vdotN a b) (fun i _ => (zlt (cut_of 32 _)).1) W g cap hx
  obtain ⟨⟨p, q⟩, hF⟩ : ∃ F, vlanes 32 (vdotN a b) = F := ⟨_, rfl⟩
  rw [hF] at CV ⊢
  refine rvd_walk a.1 a.2 b.1 b.2 p q (laneN a 16) (laneN b 16) (vdotN a b) (hide fun i => laneN_lt _ _ _) (hide fun i => laneN_lt _ _ _) (hide fun W => list_call (w := 16) (c := 8) (.inr (.inl rfl)) rfl a W) (hide fun W => list_call (w := 16) (c := 8) (.inr (.inl rfl)) rfl b W)
    (hide fun fx hx i _ W => Z.rworth_calls (w := 16) (.inr (.inl rfl)) _ (zof (hx i)) W) (hide fun n W => Z.number_calls (w := 32) (.inr (.inr (.inl rfl))) n W) (hide fun i _ => ?_) (hide CV) W
  have b1 := mul_bound (wo_bound (laneN_lt a 16 (2 * i))) (wo_bound (laneN_lt b 16 (2 * i)))
  have b2 := mul_bound (wo_bound (laneN_lt a 16 (2 * i + 1))) (wo_bound (laneN_lt b 16 (2 * i + 1)))
  refine ⟨_, _, _, wrap_small (by omega), wrap_small (by omega), wrap_small (by omega), ?_⟩
  exact (zlt (cut_of 32 _)).2.symm
end Go.Proofs.YtoihfmammmkloaaDoor
