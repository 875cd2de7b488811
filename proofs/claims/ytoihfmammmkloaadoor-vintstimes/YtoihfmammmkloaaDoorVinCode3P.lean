/-
  vints.Wide, Narrow, Times, Pairs, Dot: what they answer.
-/
import Derived.Test.YtoihfmammmkloaaDoorPkCode2
import Derived.Test.YtoihfmammmkloaaDoorVinCode1P
import Derived.Test.YtoihfmammmkloaaDoorPkVinB
import Derived.Test.YtoihfmammmkloaaDoorVinFactsP
set_option linter.unusedVariables false
set_option linter.unusedSimpArgs false
namespace Go.Proofs.YtoihfmammmkloaaDoor
open Go.RowKit Lan

theorem wide1_enters : Enters 60 := enters_of Tryd.func60 (by kernel_rfl) rfl
theorem nar1_enters : Enters 56 := enters_of Tryd.func56 (by kernel_rfl) rfl
theorem sums1_enters : Enters 101 := enters_of Tryd.func101 (by kernel_rfl) rfl

set_option maxHeartbeats 1000000 in
theorem wide1_walk (w w2 x n : Int) (s : Bool) (q0 q1 : Nat) (hw : wrap64 (2 * w) = w2) (W : World) (h0 : W.cell? ⟨q0, 0, none⟩ = some (.int .i64 w)) (h1 : W.cell? ⟨q1, 0, none⟩ = some (.bool s))
    (hC : Calls Tryd.prog 61 #[.int .i64 w, .int .i64 w2, .bool s, .int .u64 x] W fun e W' => e = .returned (.tuple #[.int .u64 n, .int .i64 0]) ∧ Below W.heap.size W W') :
    Calls Tryd.prog 60 #[.int .u64 x, .pointer (some ⟨q0, 0, none⟩), .pointer (some ⟨q1, 0, none⟩)] W fun e W' => e = .returned (.tuple #[.int .u64 n, .int .i64 0]) ∧ Below W.heap.size W W' := by
  have C := hide hC
  clear hC
  go_enter Tryd.func60, Tryd.ntmps60
  go_wp2_with fail
  refine C.out.mono ?_
  rintro e w2 ⟨rfl, hb⟩
  have HB := hide hb
  clear hb
  go_wp2
  refine bodyPost_ret (v := .tuple #[.int .u64 n, .int .i64 0]) (by simp [results, Tryd.results60, go_sem]) rfl ?_
  exact ⟨rfl, HB.out⟩

set_option maxHeartbeats 1000000 in
theorem nar1_16 (x n : Int) (s : Bool) (q0 q1 : Nat) (W : World) (h0 : W.cell? ⟨q0, 0, none⟩ = some (.int .i64 16)) (h1 : W.cell? ⟨q1, 0, none⟩ = some (.bool s))
    (hC : Calls Tryd.prog 57 #[.int .i64 16, .int .i64 8, .bool s, .int .u64 x] W fun e W' => e = .returned (.tuple #[.int .u64 n, .int .i64 0]) ∧ Below W.heap.size W W') :
    Calls Tryd.prog 56 #[.int .u64 x, .pointer (some ⟨q0, 0, none⟩), .pointer (some ⟨q1, 0, none⟩)] W fun e W' => e = .returned (.tuple #[.int .u64 n, .int .i64 0]) ∧ Below W.heap.size W W' := by
  have C := hide hC
  clear hC
  go_enter Tryd.func56, Tryd.ntmps56
  go_wp2_with fail
  refine C.out.mono ?_
  rintro e w2 ⟨rfl, hb⟩
  have HB := hide hb
  clear hb
  go_wp2
  refine bodyPost_ret (v := .tuple #[.int .u64 n, .int .i64 0]) (by simp [results, Tryd.results56, go_sem]) rfl ?_
  exact ⟨rfl, HB.out⟩
set_option maxHeartbeats 1000000 in
theorem nar1_32 (x n : Int) (s : Bool) (q0 q1 : Nat) (W : World) (h0 : W.cell? ⟨q0, 0, none⟩ = some (.int .i64 32)) (h1 : W.cell? ⟨q1, 0, none⟩ = some (.bool s))
    (hC : Calls Tryd.prog 57 #[.int .i64 32, .int .i64 16, .bool s, .int .u64 x] W fun e W' => e = .returned (.tuple #[.int .u64 n, .int .i64 0]) ∧ Below W.heap.size W W') :
    Calls Tryd.prog 56 #[.int .u64 x, .pointer (some ⟨q0, 0, none⟩), .pointer (some ⟨q1, 0, none⟩)] W fun e W' => e = .returned (.tuple #[.int .u64 n, .int .i64 0]) ∧ Below W.heap.size W W' := by
  have C := hide hC
  clear hC
  go_enter Tryd.func56, Tryd.ntmps56
  go_wp2_with fail
  refine C.out.mono ?_
  rintro e w2 ⟨rfl, hb⟩
  have HB := hide hb
  clear hb
  go_wp2
  refine bodyPost_ret (v := .tuple #[.int .u64 n, .int .i64 0]) (by simp [results, Tryd.results56, go_sem]) rfl ?_
  exact ⟨rfl, HB.out⟩
set_option maxHeartbeats 1000000 in
theorem sums1_walk (w x y n : Int) (q0 : Nat) (W : World) (h0 : W.cell? ⟨q0, 0, none⟩ = some (.int .i64 w))
    (hC : Calls Tryd.prog 34 #[.int .u8 1, .int .i64 w, .int .u64 x, .int .u64 y] W fun e W' => e = .returned (.tuple #[.int .u64 n, .int .i64 0]) ∧ Below W.heap.size W W') :
    Calls Tryd.prog 101 #[.int .u64 x, .int .u64 y, .pointer (some ⟨q0, 0, none⟩)] W fun e W' => e = .returned (.tuple #[.int .u64 n, .int .i64 0]) ∧ Below W.heap.size W W' := by
  have C := hide hC
  clear hC
  go_enter Tryd.func101, Tryd.ntmps101
  go_wp2_with fail
  refine C.out.mono ?_
  rintro e w2 ⟨rfl, hb⟩
  have HB := hide hb
  clear hb
  go_wp2
  refine bodyPost_ret (v := .tuple #[.int .u64 n, .int .i64 0]) (by simp [results, Tryd.results101, go_sem]) rfl ?_
  exact ⟨rfl, HB.out⟩

theorem narI_call {f t : Nat} (hf : IsW f) (ht : IsW t) (h : t < f) (s : Bool) (n : Nat) (hn : n < 2 ^ f) (W : World) (hT : WTabs W) :
    Calls Tryd.prog 57 #[.int .i64 (f : Int), .int .i64 (t : Int), .bool s, .int .u64 (n : Int)] W fun e W' => e = .returned (.tuple #[.int .u64 (((Z.narV f t s (n : Int)).toNat : Nat) : Int), .int .i64 0]) ∧ Below W.heap.size W W' := by
  have := Z.Narrow_calls (f : Int) (t : Int) s (n : Int) (by omega) W hT
  unfold Z.pairV Z.nar at this
  rw [if_pos ⟨zok hf hn, (isW_iff t).2 ⟨t, rfl, ht⟩, by omega⟩] at this
  rw [(zlt (nar_of f t s (n : Int))).2]
  exact this
theorem extI_call {f t : Nat} (hf : IsW f) (ht : IsW t) (h : f ≤ t) (s : Bool) (n : Nat) (hn : n < 2 ^ f) (W : World) (hT : WTabs W) :
    Calls Tryd.prog 61 #[.int .i64 (f : Int), .int .i64 (t : Int), .bool s, .int .u64 (n : Int)] W fun e W' => e = .returned (.tuple #[.int .u64 (((Z.extV f t s (n : Int)).toNat : Nat) : Int), .int .i64 0]) ∧ Below W.heap.size W W' := by
  have := Z.Extend_calls (f : Int) (t : Int) s (n : Int) (by omega) W hT
  unfold Z.pairV Z.ext at this
  rw [if_pos ⟨zok hf hn, (isW_iff t).2 ⟨t, rfl, ht⟩, by omega⟩] at this
  rw [(zlt (ext_of h s (zof hn))).2]
  exact this

/-- A half of the lanes, each extended. -/
theorem wide_each {m m2 n : Nat} (hm : IsW m) (h2 : IsW m2) (hmm : m ≤ m2) (hw : wrap64 (2 * (m : Int)) = (m2 : Int)) (hn : 128 / m2 = n) (s : Bool) (a : Nat × Nat) (o : Nat) (hon : ∀ i, i < n → o + i < 128 / m)
    (R : Nat → Nat) (hR : ∀ i, i < n → R i = (Z.extV m m2 s (laneN a m (o + i) : Int)).toNat) (g q0 q1 : Nat) (W : World) (hT : WTabs W) (hg : WBlk W g (listN a m)) (h0 : W.cell? ⟨q0, 0, none⟩ = some (.int .i64 (m : Int))) (h1 : W.cell? ⟨q1, 0, none⟩ = some (.bool s))
    (W2 : World) (hb : Below W.heap.size W W2) :
    Calls Tryd.prog 54 #[.int .i64 (m2 : Int), .slice (some ⟨g, o, none⟩) n n, .func (.func 60) #[] #[.pointer (some ⟨q0, 0, none⟩), .pointer (some ⟨q1, 0, none⟩)]] W2 fun e W' =>
      e = .returned (vecE (vecN m2 ((List.range n).map R), 0)) ∧ Below W2.heap.size W2 W' := by
  have hx := fun i => ext_of hmm s (zof (laneN_lt a m (o + i)))
  have hT2 := hT.later hb
  have hA : ∀ i, i < n → at0 ((List.range n).map fun i => laneN a m (o + i)) i = laneN a m (o + i) := fun i hi => by simp [at0, List.getElem?_range hi]
  refine each_ok h2 hn _ _ wide1_enters g o n ((List.range n).map fun i => laneN a m (o + i)) R (fun i hi => by rw [hR i hi]; exact (zlt (hx i)).1) W2 hT2 ?_ ?_
  · intro i hi
    have := (hg.later hb hg.lt).cell (o + i) (by rw [listN_length]; exact hon i hi)
    rw [at_list _ _ _ (hon i hi)] at this
    rw [hA i hi]
    exact this
  · intro V i hi hV
    rw [hA i hi, hR i hi]
    have hbV := later2 hb hV
    exact wide1_walk (m : Int) (m2 : Int) _ _ s q0 q1 hw V (cell_later hbV h0 (Nat.le_refl _)) (cell_later hbV h1 (Nat.le_refl _)) (extI_call hm h2 hmm s _ (laneN_lt _ _ _) V (hT2.later hV))

theorem vwide_code : VWideOK WTabs := by
  intro w s h a ha W hT
  unfold vwide
  cases hw : isW3 w with
  | false =>
    obtain ⟨n8, n16, n32⟩ := isW3_not hw
    exact vwide_refuse w h s a n8 n16 n32 W
  | true =>
    have w8 : IsW 8 := .inl rfl
    have w16 : IsW 16 := .inr (.inl rfl)
    have w32 : IsW 32 := .inr (.inr (.inl rfl))
    have w64 : IsW 64 := .inr (.inr (.inr rfl))
    rcases isW3_cases hw with rfl | rfl | rfl
    · show Calls _ _ _ _ fun e W' => e = .returned (vecE (vecN 16 ((List.range 8).map (vwideN 8 s h a)), 0)) ∧ _
      cases h with
      | false =>
        exact vwide8_walk s false a 0 (listN a 8) (vecN 16 ((List.range 8).map (vwideN 8 s false a))).1 (vecN 16 ((List.range 8).map (vwideN 8 s false a))).2 0 W (fun W' hb => lall_ok w8 (c := 16) rfl a ha W' (hT.later hb)) (fun g W' => half_low g 8 (by decide) W')
          (fun g q0 q1 W' hb hg h0 h1 W2 hb2 => wide_each w8 w16 (by decide) (by unfold wrap64; omega) rfl s a 0 (fun i hi => by omega) (vwideN 8 s false a) (fun i hi => by rw [Nat.zero_add]; rfl) g q0 q1 W' (hT.later hb) hg h0 h1 W2 hb2)
      | true =>
        exact vwide8_walk s true a 8 (listN a 8) (vecN 16 ((List.range 8).map (vwideN 8 s true a))).1 (vecN 16 ((List.range 8).map (vwideN 8 s true a))).2 0 W (fun W' hb => lall_ok w8 (c := 16) rfl a ha W' (hT.later hb)) (fun g W' => half_high g 8 (by decide) W')
          (fun g q0 q1 W' hb hg h0 h1 W2 hb2 => wide_each w8 w16 (by decide) (by unfold wrap64; omega) rfl s a 8 (fun i hi => by omega) (vwideN 8 s true a) (fun i hi => by rw [Nat.add_comm]; rfl) g q0 q1 W' (hT.later hb) hg h0 h1 W2 hb2)
    · show Calls _ _ _ _ fun e W' => e = .returned (vecE (vecN 32 ((List.range 4).map (vwideN 16 s h a)), 0)) ∧ _
      cases h with
      | false =>
        exact vwide16_walk s false a 0 (listN a 16) (vecN 32 ((List.range 4).map (vwideN 16 s false a))).1 (vecN 32 ((List.range 4).map (vwideN 16 s false a))).2 0 W (fun W' hb => lall_ok w16 (c := 8) rfl a ha W' (hT.later hb)) (fun g W' => half_low g 4 (by decide) W')
          (fun g q0 q1 W' hb hg h0 h1 W2 hb2 => wide_each w16 w32 (by decide) (by unfold wrap64; omega) rfl s a 0 (fun i hi => by omega) (vwideN 16 s false a) (fun i hi => by rw [Nat.zero_add]; rfl) g q0 q1 W' (hT.later hb) hg h0 h1 W2 hb2)
      | true =>
        exact vwide16_walk s true a 4 (listN a 16) (vecN 32 ((List.range 4).map (vwideN 16 s true a))).1 (vecN 32 ((List.range 4).map (vwideN 16 s true a))).2 0 W (fun W' hb => lall_ok w16 (c := 8) rfl a ha W' (hT.later hb)) (fun g W' => half_high g 4 (by decide) W')
          (fun g q0 q1 W' hb hg h0 h1 W2 hb2 => wide_each w16 w32 (by decide) (by unfold wrap64; omega) rfl s a 4 (fun i hi => by omega) (vwideN 16 s true a) (fun i hi => by rw [Nat.add_comm]; rfl) g q0 q1 W' (hT.later hb) hg h0 h1 W2 hb2)
    · show Calls _ _ _ _ fun e W' => e = .returned (vecE (vecN 64 ((List.range 2).map (vwideN 32 s h a)), 0)) ∧ _
      cases h with
      | false =>
        exact vwide32_walk s false a 0 (listN a 32) (vecN 64 ((List.range 2).map (vwideN 32 s false a))).1 (vecN 64 ((List.range 2).map (vwideN 32 s false a))).2 0 W (fun W' hb => lall_ok w32 (c := 4) rfl a ha W' (hT.later hb)) (fun g W' => half_low g 2 (by decide) W')
          (fun g q0 q1 W' hb hg h0 h1 W2 hb2 => wide_each w32 w64 (by decide) (by unfold wrap64; omega) rfl s a 0 (fun i hi => by omega) (vwideN 32 s false a) (fun i hi => by rw [Nat.zero_add]; rfl) g q0 q1 W' (hT.later hb) hg h0 h1 W2 hb2)
      | true =>
        exact vwide32_walk s true a 2 (listN a 32) (vecN 64 ((List.range 2).map (vwideN 32 s true a))).1 (vecN 64 ((List.range 2).map (vwideN 32 s true a))).2 0 W (fun W' hb => lall_ok w32 (c := 4) rfl a ha W' (hT.later hb)) (fun g W' => half_high g 2 (by decide) W')
          (fun g q0 q1 W' hb hg h0 h1 W2 hb2 => wide_each w32 w64 (by decide) (by unfold wrap64; omega) rfl s a 2 (fun i hi => by omega) (vwideN 32 s true a) (fun i hi => by rw [Nat.add_comm]; rfl) g q0 q1 W' (hT.later hb) hg h0 h1 W2 hb2)

/-- Two vectors' lanes, one behind the other. -/
theorem list_joined (a b : Nat × Nat) {w c : Nat} (hc : 128 / w = c) : listN a w ++ listN b w = (List.range (c + c)).map (joinF c (laneN a w) (laneN b w)) := by
  rw [← join_append]
  unfold listN
  rw [hc]

theorem nar_each {m m2 c n : Nat} (hm : IsW m) (h2 : IsW m2) (hmm : m2 < m) (hc : 128 / m = c) (hn : 128 / m2 = n) (hcn : c + c = n) (s : Bool) (a b : Nat × Nat)
    (R : Nat → Nat) (hR : ∀ i, i < n → R i = (Z.narV m m2 s (joinF c (laneN a m) (laneN b m) i : Int)).toNat) (q0 q1 : Nat)
    (CW : ∀ (x n' : Int) (V : World), V.cell? ⟨q0, 0, none⟩ = some (.int .i64 (m : Int)) → V.cell? ⟨q1, 0, none⟩ = some (.bool s) → (Calls Tryd.prog 57 #[.int .i64 (m : Int), .int .i64 (m2 : Int), .bool s, .int .u64 x] V fun e W' => e = .returned (.tuple #[.int .u64 n', .int .i64 0]) ∧ Below V.heap.size V W') →
      Calls Tryd.prog 56 #[.int .u64 x, .pointer (some ⟨q0, 0, none⟩), .pointer (some ⟨q1, 0, none⟩)] V fun e W' => e = .returned (.tuple #[.int .u64 n', .int .i64 0]) ∧ Below V.heap.size V W')
    (W : World) (hT : WTabs W) (h0 : W.cell? ⟨q0, 0, none⟩ = some (.int .i64 (m : Int))) (h1 : W.cell? ⟨q1, 0, none⟩ = some (.bool s))
    (W2 : World) (g cap : Nat) (hb : Below W.heap.size W W2) (hx : XBlk W2 g n (listN a m ++ listN b m)) :
    Calls Tryd.prog 54 #[.int .i64 (m2 : Int), .slice (some ⟨g, 0, none⟩) n cap, .func (.func 56) #[] #[.pointer (some ⟨q0, 0, none⟩), .pointer (some ⟨q1, 0, none⟩)]] W2 fun e W' =>
      e = .returned (vecE (vecN m2 ((List.range n).map R), 0)) ∧ Below W2.heap.size W2 W' := by
  have hT2 := hT.later hb
  have hlt : ∀ i, joinF c (laneN a m) (laneN b m) i < 2 ^ m := fun i => by
    unfold joinF
    split
    · exact laneN_lt _ _ _
    · exact laneN_lt _ _ _
  rw [list_joined a b hc, hcn] at hx
  have hA : ∀ i, i < n → at0 ((List.range n).map (joinF c (laneN a m) (laneN b m))) i = joinF c (laneN a m) (laneN b m) i := fun i hi => by simp [at0, List.getElem?_range hi]
  refine each_ok h2 hn _ _ nar1_enters g 0 cap ((List.range n).map (joinF c (laneN a m) (laneN b m))) R (fun i hi => by rw [hR i hi]; exact (zlt (nar_of m m2 s _)).1) W2 hT2 ?_ ?_
  · intro i hi
    rw [Nat.zero_add]
    exact hx.cell i hi
  · intro V i hi hV
    rw [hA i hi, hR i hi]
    have hbV := later2 hb hV
    exact CW _ _ V (cell_later hbV h0 (Nat.le_refl _)) (cell_later hbV h1 (Nat.le_refl _)) (narI_call hm h2 hmm s _ (hlt i) V (hT2.later hV))

theorem nar_R {m m2 c : Nat} (h2 : m / 2 = m2) (hc : 128 / m = c) (s : Bool) (a b : Nat × Nat) (i : Nat) : vnarN m s a b i = (Z.narV m m2 s (joinF c (laneN a m) (laneN b m) i : Int)).toNat := by
  unfold vnarN joinF
  rw [h2, hc]

theorem vnar_16 (s : Bool) (a b : Nat × Nat) (ha : Vok a) (hb : Vok b) (W : World) (hT : WTabs W) :
    Calls Tryd.prog 22 #[.int .i64 16, .bool s, vecV a, vecV b] W fun e W' => e = .returned (vecE (vecN 8 ((List.range 16).map (vnarN 16 s a b)), 0)) ∧ Below W.heap.size W W' := by
  have w8 : IsW 8 := .inl rfl
  have w16 : IsW 16 := .inr (.inl rfl)
  have CE := fun q0 q1 W' (hB : Below W.heap.size W W') h0 h1 W2 g cap hB2 hx => nar_each w16 w8 (by decide) (c := 8) (n := 16) rfl rfl rfl s a b (vnarN 16 s a b) (fun i _ => nar_R rfl rfl s a b i) q0 q1 (fun x n' V => nar1_16 x n' s q0 q1 V) W' (hT.later hB) h0 h1 W2 g cap hB2 hx
  generalize vecN 8 ((List.range 16).map (vnarN 16 s a b)) = F at CE ⊢
  obtain ⟨p, q⟩ := F
  exact vnar16_walk s a b (listN a 16 ++ listN b 16) (by rw [List.length_append, listN_length, listN_length]) p q 0 W (fun W' hB => joined_calls w16 (c := 8) rfl (.inr rfl) a b ha hb W' (hT.later hB)) CE
theorem vnar_32 (s : Bool) (a b : Nat × Nat) (ha : Vok a) (hb : Vok b) (W : World) (hT : WTabs W) :
    Calls Tryd.prog 22 #[.int .i64 32, .bool s, vecV a, vecV b] W fun e W' => e = .returned (vecE (vecN 16 ((List.range 8).map (vnarN 32 s a b)), 0)) ∧ Below W.heap.size W W' := by
  have w16 : IsW 16 := .inr (.inl rfl)
  have w32 : IsW 32 := .inr (.inr (.inl rfl))
  have CE := fun q0 q1 W' (hB : Below W.heap.size W W') h0 h1 W2 g cap hB2 hx => nar_each w32 w16 (by decide) (c := 4) (n := 8) rfl rfl rfl s a b (vnarN 32 s a b) (fun i _ => nar_R rfl rfl s a b i) q0 q1 (fun x n' V => nar1_32 x n' s q0 q1 V) W' (hT.later hB) h0 h1 W2 g cap hB2 hx
  generalize vecN 16 ((List.range 8).map (vnarN 32 s a b)) = F at CE ⊢
  obtain ⟨p, q⟩ := F
  exact vnar32_walk s a b (listN a 32 ++ listN b 32) (by rw [List.length_append, listN_length, listN_length]) p q 0 W (fun W' hB => joined_calls w32 (c := 4) rfl (.inl rfl) a b ha hb W' (hT.later hB)) CE
theorem vnar_code : VNarOK WTabs := by
  intro w s a b ha hb W hT
  unfold vnar
  by_cases h16 : w = 16
  · subst h16
    exact vnar_16 s a b ha hb W hT
  · by_cases h32 : w = 32
    · subst h32
      exact vnar_32 s a b ha hb W hT
    · have e : (w == 16 || w == 32) = false := by simp [h16, h32]
      rw [e]
      exact vnar_refuse w s a b (by simpa using h16) (by simpa using h32) W

theorem vlanes_congr {w : Nat} {f g : Nat → Nat} (h : ∀ i, i < 128 / w → f i = g i) : vlanes w f = vlanes w g := by
  unfold vlanes
  congr 1
  exact List.map_congr_left fun i hi => h i (List.mem_range.1 hi)

/-- The product of what is extended. -/
theorem times_lanes {m m2 : Nat} (h2 : IsW m2) (hm2 : m2 = 2 * m) (hmm : m ≤ m2) (s h : Bool) (a b : Nat × Nat) :
    vtwo 3 (m2 : Int) (vlanes m2 (vwideN m s h a)) (vlanes m2 (vwideN m s h b)) = (vlanes m2 (vtimesN m s h a b), 0) := by
  have hl : ∀ (c : Nat × Nat) i, vwideN m s h c i < 2 ^ m2 := fun c i => by
    unfold vwideN
    rw [← hm2]
    exact (zlt (ext_of hmm s (zof (laneN_lt _ _ _)))).1
  unfold vtwo
  rw [show refused (3 : Int).toNat = false from rfl, if_neg (by simp), (isW_iff (m2 : Int)).2 ⟨m2, rfl, h2⟩, if_pos rfl, Int.toNat_natCast, show tok (3 : Int).toNat m2 = true from rfl, if_pos rfl]
  refine Prod.ext (vlanes_congr fun i hi => ?_) rfl
  unfold vtwoN
  rw [lane_at h2 (fun i _ => hl a i) i hi, lane_at h2 (fun i _ => hl b i) i hi]
  show (Z.cutI m2 ((vwideN m s h a i : Int) * (vwideN m s h b i : Int))).toNat = vtimesN m s h a b i
  unfold Z.cutI vtimesN
  rw [← hm2]
  have e : ((vwideN m s h a i : Int) * (vwideN m s h b i : Int)) % 2 ^ m2 = ((vwideN m s h a i * vwideN m s h b i % 2 ^ m2 : Nat) : Int) := by push_cast; rfl
  rw [e, Int.toNat_natCast]

theorem wide_ok {m m2 : Nat} (h2 : IsW m2) (hm2 : m2 = 2 * m) (hmm : m ≤ m2) (s h : Bool) (a : Nat × Nat) : Vok (vlanes m2 (vwideN m s h a)) :=
  vlanes_ok h2 fun i _ => by
    unfold vwideN
    rw [← hm2]
    exact (zlt (ext_of hmm s (zof (laneN_lt _ _ _)))).1

theorem vwide_lit {m m2 : Nat} (hm2 : m2 = 2 * m) (h3 : isW3 (m : Int) = true) (s h : Bool) (a : Nat × Nat) (ha : Vok a) (W : World) (hT : WTabs W) :
    Calls Tryd.prog 24 #[.int .i64 (m : Int), .bool s, .bool h, vecV a] W fun e W' => e = .returned (vecE (vlanes m2 (vwideN m s h a), 0)) ∧ Below W.heap.size W W' := by
  have V := vwide_code (m : Int) s h a ha W hT
  unfold vwide at V
  simp only [h3, if_true, Int.toNat_natCast, ← hm2] at V
  exact V

theorem vtimes_lit {m m2 : Nat} (h2 : IsW m2) (hm2 : m2 = 2 * m) (hmm : m ≤ m2) (h3 : isW3 (m : Int) = true) (hw : wrap64 (2 * (m : Int)) = (m2 : Int)) (s h : Bool) (a b : Nat × Nat) (ha : Vok a) (hb : Vok b) (W : World) (hT : WTabs W) :
    Calls Tryd.prog 26 #[.int .i64 (m : Int), .bool s, .bool h, vecV a, vecV b] W fun e W' => e = .returned (vecE (vlanes m2 (vtimesN m s h a b), 0)) ∧ Below W.heap.size W W' := by
  have V := fun (c : Nat × Nat) (hc : Vok c) W' (hT' : WTabs W') => vwide_lit hm2 h3 s h c hc W' hT'
  have T := fun W' (hT' : WTabs W') => vtwo_code 3 (m2 : Int) (vlanes m2 (vwideN m s h a)) (vlanes m2 (vwideN m s h b)) (by decide) (wide_ok h2 hm2 hmm s h a) (wide_ok h2 hm2 hmm s h b) W' hT'
  rw [times_lanes h2 hm2 hmm s h a b] at T
  exact ctimes_walk (m : Int) (m2 : Int) s h a b (vlanes m2 (vwideN m s h a)).1 (vlanes m2 (vwideN m s h a)).2 (vlanes m2 (vwideN m s h b)).1 (vlanes m2 (vwideN m s h b)).2 (vlanes m2 (vtimesN m s h a b)).1 (vlanes m2 (vtimesN m s h a b)).2 0 hw W (fun W' hB => V a ha W' (hT.later hB)) (fun W' hB => V b hb W' (hT.later hB)) (fun W' hB => T W' (hT.later hB))

theorem vtimes_code : VTimesOK WTabs := by
  intro w s h a b ha hb W hT
  unfold vtimes
  cases hw : isW3 w with
  | false =>
    refine ctimes_bad w s h a b W fun W' hB => ?_
    have := vwide_code w s h a ha W' (hT.later hB)
    unfold vwide at this
    rw [hw] at this
    exact this
  | true =>
    rcases isW3_cases hw with rfl | rfl | rfl
    · exact vtimes_lit (m := 8) (m2 := 16) (.inr (.inl rfl)) rfl (by decide) rfl (by unfold wrap64; omega) s h a b ha hb W hT
    · exact vtimes_lit (m := 16) (m2 := 32) (.inr (.inr (.inl rfl))) rfl (by decide) rfl (by unfold wrap64; omega) s h a b ha hb W hT
    · exact vtimes_lit (m := 32) (m2 := 64) (.inr (.inr (.inr rfl))) rfl (by decide) rfl (by unfold wrap64; omega) s h a b ha hb W hT

/-- Sums of neighbours of two vectors' lanes. -/
theorem sums_calls {w c : Nat} (hw : IsW w) (hc : 128 / w = c) (h48 : c = 4 ∨ c = 8) (a b : Nat × Nat) (ha : Vok a) (hb : Vok b) (R : Nat → Nat)
    (hR : ∀ i, i < c → R i = (joinF c (laneN a w) (laneN b w) (2 * i) + joinF c (laneN a w) (laneN b w) (2 * i + 1)) % 2 ^ w) (W : World) (hT : WTabs W) :
    Calls Tryd.prog 63 #[.int .i64 (w : Int), vecV a, vecV b] W fun e W' => e = .returned (vecE (vlanes w R, 0)) ∧ Below W.heap.size W W' := by
  have hlt : ∀ i, joinF c (laneN a w) (laneN b w) i < 2 ^ w := fun i => by
    unfold joinF
    split
    · exact laneN_lt _ _ _
    · exact laneN_lt _ _ _
  have hp := Nat.two_pow_pos w
  have hRl : ∀ i, i < c → R i < 2 ^ w := fun i hi => by rw [hR i hi]; exact Nat.mod_lt _ hp
  unfold vlanes
  rw [hc]
  refine sums_walk (w : Int) c (by omega) (by omega) (joinF c (laneN a w) (laneN b w)) a b (vecN w ((List.range c).map R)).1 (vecN w ((List.range c).map R)).2 0 W (fun W' hB => ?_) (fun q W' hB h0 W2 g1 c1 g2 c2 hB2 hE hO => ?_)
  · have := joined_calls hw hc h48 a b ha hb W' (hT.later hB)
    rw [list_joined a b hc, ← Nat.two_mul] at this
    exact this
  · have hT2 := (hT.later hB).later hB2
    have hA : ∀ i, i < c → at0 (evens (joinF c (laneN a w) (laneN b w)) (2 * c)) i = joinF c (laneN a w) (laneN b w) (2 * i) := fun i hi => by
      unfold evens
      simp [at0, List.getElem?_range (show i < (2 * c + 1) / 2 by omega)]
    have hB' : ∀ i, i < c → at0 (odds (joinF c (laneN a w) (laneN b w)) (2 * c)) i = joinF c (laneN a w) (laneN b w) (2 * i + 1) := fun i hi => by
      unfold odds
      simp [at0, List.getElem?_range hi]
    refine both_ok hw hc _ _ sums1_enters g1 0 c1 g2 0 c2 _ _ R hRl W2 hT2 hE hO ?_
    intro V i hi hV
    rw [hA i hi, hB' i hi]
    have C := Z.Two_calls (zw hw) 1 (joinF c (laneN a w) (laneN b w) (2 * i) : Int) (joinF c (laneN a w) (laneN b w) (2 * i + 1) : Int) (by decide) (zof (hlt _)) (zof (hlt _)) V (hT2.later hV)
    have e : Z.two (1 : Int).toNat w (joinF c (laneN a w) (laneN b w) (2 * i) : Int) (joinF c (laneN a w) (laneN b w) (2 * i + 1) : Int) = ((R i : Int), 0) := by
      rw [hR i hi]
      refine Prod.ext ?_ rfl
      show Z.cutI w ((joinF c (laneN a w) (laneN b w) (2 * i) : Int) + (joinF c (laneN a w) (laneN b w) (2 * i + 1) : Int)) = _
      unfold Z.cutI
      push_cast
      rfl
    rw [e] at C
    exact sums1_walk (w : Int) _ _ _ q V (cell_later (later2 hB2 hV) h0 (Nat.le_refl _)) C

/-- What is extended, low and high one behind the other, is each lane extended. -/
theorem join_wide {m m2 n : Nat} (h2 : IsW m2) (hm2 : m2 = 2 * m) (hmm : m ≤ m2) (hn : 128 / m2 = n) (h64 : 64 / m = n) (f : Bool → Nat → Nat) (F : Nat → Nat) (hl : ∀ h i, f h i < 2 ^ m2)
    (h0 : ∀ i, i < n → f false i = F i) (h1 : ∀ i, i < n → f true i = F (i + n)) (j : Nat) (hj : j < n + n) :
    joinF n (laneN (vlanes m2 (f false)) m2) (laneN (vlanes m2 (f true)) m2) j = F j := by
  unfold joinF
  by_cases c : j < n
  · rw [if_pos c, lane_at h2 (fun i _ => hl false i) j (by omega), h0 j c]
  · rw [if_neg c, lane_at h2 (fun i _ => hl true i) (j - n) (by omega), h1 (j - n) (by omega), Nat.sub_add_cancel (by omega)]

theorem vpairs_lit {m m2 n : Nat} (h2 : IsW m2) (hm2 : m2 = 2 * m) (hmm : m ≤ m2) (hn : 128 / m2 = n) (h64 : 64 / m = n) (h48 : n = 4 ∨ n = 8) (s : Bool) (a : Nat × Nat) (ha : Vok a) (W : World) (hT : WTabs W) :
    Calls Tryd.prog 63 #[.int .i64 (m2 : Int), vecV (vlanes m2 (vwideN m s false a)), vecV (vlanes m2 (vwideN m s true a))] W fun e W' => e = .returned (vecE (vlanes m2 (vpairsN m s a), 0)) ∧ Below W.heap.size W W' := by
  have hl : ∀ h i, vwideN m s h a i < 2 ^ m2 := fun h i => by
    unfold vwideN
    rw [← hm2]
    exact (zlt (ext_of hmm s (zof (laneN_lt _ _ _)))).1
  have J := join_wide h2 hm2 hmm hn h64 (fun h => vwideN m s h a) (fun i => (Z.extV m m2 s (laneN a m i : Int)).toNat) hl (fun i hi => by show vwideN m s false a i = _; unfold vwideN; rw [← hm2]; rfl) (fun i hi => by show vwideN m s true a i = _; unfold vwideN; rw [← hm2, h64]; rfl)
  refine sums_calls h2 hn h48 _ _ (wide_ok h2 hm2 hmm s false a) (wide_ok h2 hm2 hmm s true a) (vpairsN m s a) (fun i hi => ?_) W hT
  rw [J (2 * i) (by omega), J (2 * i + 1) (by omega)]
  unfold vpairsN
  rw [← hm2]

theorem vpairs_8 (s : Bool) (a : Nat × Nat) (ha : Vok a) (W : World) (hT : WTabs W) :
    Calls Tryd.prog 28 #[.int .i64 8, .bool s, vecV a] W fun e W' => e = .returned (vecE (vlanes 16 (vpairsN 8 s a), 0)) ∧ Below W.heap.size W W' := by
  have X := fun h W' (hB : Below W.heap.size W W') => vwide_lit (m := 8) (m2 := 16) rfl rfl s h a ha W' (hT.later hB)
  have Y := fun W' (hB : Below W.heap.size W W') => vpairs_lit (m := 8) (m2 := 16) (n := 8) (.inr (.inl rfl)) rfl (by decide) rfl rfl (.inr rfl) s a ha W' (hT.later hB)
  have X0 := X false
  have X1 := X true
  clear X
  generalize vlanes 16 (vwideN 8 s false a) = F at X0 Y
  generalize vlanes 16 (vwideN 8 s true a) = G at X1 Y
  generalize vlanes 16 (vpairsN 8 s a) = H at Y ⊢
  obtain ⟨f0, f1⟩ := F
  obtain ⟨g0, g1⟩ := G
  obtain ⟨h0, h1⟩ := H
  exact cpairs8_walk s a f0 f1 g0 g1 h0 h1 0 W X0 X1 Y
theorem vpairs_16 (s : Bool) (a : Nat × Nat) (ha : Vok a) (W : World) (hT : WTabs W) :
    Calls Tryd.prog 28 #[.int .i64 16, .bool s, vecV a] W fun e W' => e = .returned (vecE (vlanes 32 (vpairsN 16 s a), 0)) ∧ Below W.heap.size W W' := by
  have X := fun h W' (hB : Below W.heap.size W W') => vwide_lit (m := 16) (m2 := 32) rfl rfl s h a ha W' (hT.later hB)
  have Y := fun W' (hB : Below W.heap.size W W') => vpairs_lit (m := 16) (m2 := 32) (n := 4) (.inr (.inr (.inl rfl))) rfl (by decide) rfl rfl (.inl rfl) s a ha W' (hT.later hB)
  have X0 := X false
  have X1 := X true
  clear X
  generalize vlanes 32 (vwideN 16 s false a) = F at X0 Y
  generalize vlanes 32 (vwideN 16 s true a) = G at X1 Y
  generalize vlanes 32 (vpairsN 16 s a) = H at Y ⊢
  obtain ⟨f0, f1⟩ := F
  obtain ⟨g0, g1⟩ := G
  obtain ⟨h0, h1⟩ := H
  exact cpairs16_walk s a f0 f1 g0 g1 h0 h1 0 W X0 X1 Y
theorem vpairs_code : VPairsOK WTabs := by
  intro w s a ha W hT
  unfold vpairs
  by_cases h8 : w = 8
  · subst h8
    exact vpairs_8 s a ha W hT
  · by_cases h16 : w = 16
    · subst h16
      exact vpairs_16 s a ha W hT
    · have e : (w == 8 || w == 16) = false := by simp [h8, h16]
      rw [e]
      exact cpairs_refuse w s a (by simpa using h8) (by simpa using h16) W

def extM (v : Nat × Nat) (i : Nat) : Nat := (Z.extV 16 32 true (laneN v 16 i : Int)).toNat
theorem times_F0 (a b : Nat × Nat) (i : Nat) : vtimesN 16 true false a b i = extM a i * extM b i % 2 ^ 32 := by
  simp only [vtimesN, vwideN, extM, Nat.reduceMul, Bool.false_eq_true, if_false]
theorem times_F1 (a b : Nat × Nat) (i : Nat) : vtimesN 16 true true a b i = extM a (i + 4) * extM b (i + 4) % 2 ^ 32 := by
  simp only [vtimesN, vwideN, extM, Nat.reduceMul, Nat.reduceDiv, if_true]
theorem dotL_lane (a b : Nat × Nat) (i : Nat) : vdotN a b i = (extM a (2 * i) * extM b (2 * i) % 2 ^ 32 + extM a (2 * i + 1) * extM b (2 * i + 1) % 2 ^ 32) % 2 ^ 32 := by
  unfold vdotN extM
  rw [← dot_lane (laneN_lt _ _ _) (laneN_lt _ _ _) (laneN_lt _ _ _) (laneN_lt _ _ _)]
  generalize (Z.extV 16 32 true (laneN a 16 (2 * i) : Int)).toNat * (Z.extV 16 32 true (laneN b 16 (2 * i) : Int)).toNat % 2 ^ 32 = x
  generalize (Z.extV 16 32 true (laneN a 16 (2 * i + 1) : Int)).toNat * (Z.extV 16 32 true (laneN b 16 (2 * i + 1) : Int)).toNat % 2 ^ 32 = y
  have e : Z.cutI 32 ((x : Int) + (y : Int)) = (((x + y) % 2 ^ 32 : Nat) : Int) := by
    rw [Int.natCast_emod, Int.natCast_add, Int.natCast_pow]
    rfl
  rw [e, Int.toNat_natCast]

theorem vdot_code : VDotOK WTabs := by
  intro a b ha hb W hT
  unfold vdot
  have w32 : IsW 32 := .inr (.inr (.inl rfl))
  have T := fun h W' (hB : Below W.heap.size W W') => vtimes_lit (m := 16) (m2 := 32) w32 rfl (by decide) rfl (by unfold wrap64; omega) true h a b ha hb W' (hT.later hB)
  have hl : ∀ h i, vtimesN 16 true h a b i < 2 ^ 32 := fun h i => by
    unfold vtimesN
    exact Nat.mod_lt _ (by decide)
  have J := join_wide (m := 16) (m2 := 32) (n := 4) w32 rfl (by decide) rfl rfl (fun h => vtimesN 16 true h a b) (fun i => extM a i * extM b i % 2 ^ 32) hl (fun i _ => times_F0 a b i) (fun i _ => times_F1 a b i)
  have Y := fun W' (hB : Below W.heap.size W W') => sums_calls w32 (c := 4) rfl (.inl rfl) (vlanes 32 (vtimesN 16 true false a b)) (vlanes 32 (vtimesN 16 true true a b)) (vlanes_ok w32 fun i _ => hl false i) (vlanes_ok w32 fun i _ => hl true i) (vdotN a b) (fun i hi => by
    rw [J (2 * i) (by omega), J (2 * i + 1) (by omega)]
    exact dotL_lane a b i) W' (hT.later hB)
  have X0 := T false
  have X1 := T true
  clear T J hl
  generalize vlanes 32 (vtimesN 16 true false a b) = F at X0 Y
  generalize vlanes 32 (vtimesN 16 true true a b) = G at X1 Y
  generalize vlanes 32 (vdotN a b) = H at Y ⊢
  obtain ⟨f0, f1⟩ := F
  obtain ⟨g0, g1⟩ := G
  obtain ⟨h0, h1⟩ := H
  exact cdot_walk a b f0 f1 g0 g1 h0 h1 0 W X0 X1 Y
end Go.Proofs.YtoihfmammmkloaaDoor
