/-
  VfRTwo, VfRThan, VfROne, VfRConv, VfRPro.
-/
import Derived.Test.YtpeckiaimellmaaDoorPkList
import Derived.Test.YtpeckiaimellmaaDoorPkBase
/-
  The document's Two of lanes of floats.
-/
set_option linter.unusedVariables false
set_option linter.unusedSimpArgs false
namespace Go.Proofs.YtpeckiaimellmaaDoor
open Go.RowKit Lan

set_option maxHeartbeats 8000000 in
theorem rf2_ok (op w c a0 a1 b0 b1 p q : Nat) (fa fb f : Nat → Nat) (hc16 : c ≤ 16) (hc2 : 2 ≤ c)
    (CW : Hide (∀ W : World, Calls Tryd.prog 29 #[.int .i64 (w : Int)] W fun e W' => e = .returned (.bool true) ∧ W' = W))
    (CA : Hide (∀ W : World, Calls Tryd.prog 30 #[vecV (a0, a1), .int .i64 (w : Int)] W fun e W' => ListPost W c ((List.range c).map fa) e W'))
    (CB : Hide (∀ W : World, Calls Tryd.prog 30 #[vecV (b0, b1), .int .i64 (w : Int)] W fun e W' => ListPost W c ((List.range c).map fb) e W'))
    (CT : Hide (∀ i, i < c → ∀ W : World, Calls Tryd.prog 31 #[.int .u8 (op : Int), .int .i64 (w : Int), .int .u64 (fa i : Int), .int .u64 (fb i : Int)] W fun e W' => e = .returned (.tuple #[.int .u64 (f i : Int), .int .i64 0]) ∧ Below W.heap.size W W'))
    (CV : Hide (∀ (W : World) (g cap : Nat), XBlk W g c ((List.range c).map f) → Calls Tryd.prog 32 #[.int .i64 (w : Int), .slice (some ⟨g, 0, none⟩) c cap] W fun e W' => e = .returned (vecV (p, q)) ∧ Below W.heap.size W W'))
    (W : World) :
    Calls Tryd.prog 10 #[.int .u8 (op : Int), .int .i64 (w : Int), vecV (a0, a1), vecV (b0, b1)] W fun e W' => e = .returned (vecE ((p, q), 0)) ∧ Below W.heap.size W W' := by
  obtain ⟨wa, hwa⟩ : ∃ wa, ((W.alloc (.cells #[.int .u64 (a0 : Int), .int .u64 (a1 : Int)] 25)).alloc (.cells #[.int .u64 (b0 : Int), .int .u64 (b1 : Int)] 25)).alloc (.cells #[.int .u64 0, .int .u64 0] 25) = wa := ⟨_, rfl⟩
  have VA : Hide (VBlk wa W.heap.size (a0, a1)) := hide (by rw [← hwa]; exact alloc_past (alloc_past (alloc_at rfl)))
  have VB : Hide (VBlk wa (W.heap.size + 1) (b0, b1)) := hide (by rw [← hwa]; exact alloc_past (alloc_at (by simp)))
  have ZB : Hide (VBlk wa (W.heap.size + 1 + 1) (0, 0)) := hide (by rw [← hwa]; exact alloc_at (by simp))
  have BA : Hide (Below W.heap.size W wa) := hide (by rw [← hwa]; exact (((Below.refl _ _).alloc (Nat.le_refl _) _).alloc (by simp) _).alloc (by simp; omega) _)
  have HWA := hide hwa
  clear hwa
  unfold vecV at CA CB CV ⊢
  simp only at CA CB CV ⊢
  go_enter Tryd.func10, Tryd.ntmps10
  go_wp2_with ((with_reducible refine (CW.out _).mono ?_); rintro e w0 ⟨rfl, rfl⟩)
  rw [HWA.out]
  refine wp_region_par [19, 20, 21, 22, 23, 24, 10, 11] (ListsJ (.agg #[.int .u64 (a0 : Int), .int .u64 (a1 : Int)]) (.agg #[.int .u64 (b0 : Int), .int .u64 (b1 : Int)]) w c ((List.range c).map fa) ((List.range c).map fb) wa) (by kernel_rfl) (by kernel_rfl) ?_ ?_ ?_
  · intro vs
    exact ⟨(fun h => by cases h), (fun h => by cases h), (fun h => by cases h), (fun h => by cases h), (fun h => by cases h), (fun h => by cases h), (fun h => by cases h), (fun h => by cases h), (fun h => by cases h), (Below.refl _ _).drew⟩
  · intro d vs w1 hd hl hJ
    match vs, hl with
    | [x0, x1, x2, x3, x4, x5, x6, x7], _ =>
    obtain ⟨j0, j1, o2, j3, j4, o5, a6, a7, u2_5, jb⟩ := hJ
    obtain rfl := j0 (hd 0 (by decide))
    obtain rfl := j1 (hd 1 (by decide))
    obtain rfl := j3 (hd 3 (by decide))
    obtain rfl := j4 (hd 4 (by decide))
    have e6 := (a6 (hd 6 (by decide))).2
    simp only [List.getElem?_cons_zero, List.getElem?_cons_succ, Option.getD_some] at e6
    subst e6
    have e7 := (a7 (hd 7 (by decide))).2
    simp only [List.getElem?_cons_zero, List.getElem?_cons_succ, Option.getD_some] at e7
    subst e7
    obtain ⟨g1, cap1, e2, hg1, hc1, hx1⟩ := o2 (hd 2 (by decide))
    simp only [List.getElem?_cons_zero, List.getElem?_cons_succ, Option.getD_some] at e2
    subst e2
    obtain ⟨g2, cap2, e5, hg2, hc2, hx2⟩ := o5 (hd 5 (by decide))
    simp only [List.getElem?_cons_zero, List.getElem?_cons_succ, Option.getD_some] at e5
    subst e5
    have hne : g1 ≠ g2 := u2_5 (hd 2 (by decide)) (hd 5 (by decide))
    have JB := hide jb
    have K1 := hide hx1
    have K2 := hide hx2
    clear hd hl jb j0 j1 o2 j3 j4 o5 a6 a7 u2_5 hx1 hx2
    simp only [putL, Act.put, List.setIfInBounds_toArray, List.set_cons_succ, List.set_cons_zero]
    have ZW := hide (ZB.out.later JB.out ZB.out.lt)
    have BW := hide (BA.out.trans (JB.out.mono BA.out.size))
    have S0 : Hide (TwAt W (W.heap.size + 1 + 1) g1 g2 c (mixC c f fa 0) ((List.range c).map fb) w1) := hide ⟨ZW.out, by rw [mix_zero]; exact K1.out, K2.out, BW.out⟩
    have HG : Hide (W.heap.size + 1 + 1 < g1) := hide (by have := ZB.out.lt; omega)
    have HN : Hide (g2 ≠ g1) := hide (Ne.symm hne)
    clear K1 K2 BW JB ZW VA VB ZB BA HWA CA CB hne hg1 hg2 hc1 hc2
    go_wp2_with fail
    go_loopw [12] (fun x wr => ∃ k : Nat, x = .int .i64 (k : Int) ∧ k ≤ c ∧ TwAt W (W.heap.size + 1 + 1) g1 g2 c (mixC c f fa k) ((List.range c).map fb) wr) (fun x _ => c - (intOf x).toNat)
    case atStart => exact ⟨0, rfl, by omega, S0.out⟩
    case round =>
      obtain ⟨k, rfl, hk, hr⟩ := hrel
      have H := hide hr
      clear hr S0
      by_cases c0 : k < c
      · have c1 : (k : Int) < (c : Int) := by omega
        have c2 : (k : Int) < 16 := by omega
        have hA : wr.cell? ⟨g1, k, none⟩ = some (.int .u64 (fa k : Int)) := by
          have := H.out.2.1.cell k c0
          rwa [mix_at c f fa k k c0, if_neg (by omega)] at this
        have hB : wr.cell? ⟨g2, k, none⟩ = some (.int .u64 (fb k : Int)) := by
          have := H.out.2.2.1.cell k c0
          rwa [show at0 ((List.range c).map fb) k = fb k by simp [at0, List.getElem?_range c0]] at this
        have hz : wr.frozen? ⟨g1, k, none⟩ = false := H.out.2.1.frozen k
        have ST := hide (mix_set c f fa k c0)
        have CK := hide (CT.out k c0)
        have HC := hide c0
        clear CT c0
        generalize fa k = xa at *
        generalize fb k = xb at *
        generalize f k = y at *
        obtain ⟨I, F, _, hF, hin⟩ := family wr
        have E := hide (in_family hF hin (f := 31) (args := #[.int .u8 (op : Int), .int .i64 (w : Int), .int .u64 (xa : Int), .int .u64 (xb : Int)]) (r := .returned (.tuple #[.int .u64 (y : Int), .int .i64 0])) (fun W1 hW1 => (CK.out W1).mono fun e' W'' ⟨he, hb⟩ => ⟨he, hW1.trans (hb.mono hW1.size)⟩))
        have k0 : ∀ i, (F i).cell? ⟨g1, k, none⟩ = some (.int .u64 (xa : Int)) := fun i => cell_later (hF i) hA (Nat.le_refl _)
        have k1 : ∀ i, (F i).cell? ⟨g2, k, none⟩ = some (.int .u64 (xb : Int)) := fun i => cell_later (hF i) hB (Nat.le_refl _)
        have kz : ∀ i, (F i).frozen? ⟨g1, k, none⟩ = false := fun i => (H.out.later (hF i)).2.1.frozen k
        have HF := hide hF
        have IN := hide hin
        clear hF hin CK hA hB hz
        go_wp2_with fail
        refine wp_region_class F (by kernel_rfl) (by kernel_rfl) ?_ ?_
        · exact IN.out _ (Below.refl _ _).drew
        repeat (refine wpQuiet_step (fun K hK => ?_); go_simp; first | (refine hK _ ?_; clear hK K) | (apply Exists.intro; refine ⟨fun _ => ?_, hK _ ?_⟩; (first | exact E.out _); clear hK K))
        refine wpQuiet_nil ?_
        rintro _ ⟨i, rfl⟩
        go_wp2
        go_roundw
        case rel => exact ⟨k + 1, by go_num, HC.out, by rw [← ST.out]; exact (H.out.later (HF.out i)).put (mix_length c f fa k) k y HC.out (by have := HG.out; omega) HN.out (by have := HG.out; omega)⟩
        case measure => have := HC.out; simp [intOf]; omega
      · obtain rfl : k = c := by omega
        rw [mix_all] at H
        have CK := hide (fun cap => CV.out wr g1 cap H.out.2.1)
        clear CT CV c0
        go_wp2_with fail
        refine (CK.out _).mono ?_
        rintro e w2 ⟨rfl, hb⟩
        have H2 := hide (H.out.later hb)
        have z := H2.out.1
        have r0 : w2.cell? ⟨W.heap.size + 1 + 1, 0, none⟩ = some (.int .u64 0) := z.c0
        have r1 : w2.cell? ⟨W.heap.size + 1 + 1, 1, none⟩ = some (.int .u64 0) := z.c1
        have z0 : w2.frozen? ⟨W.heap.size + 1 + 1, 0, none⟩ = false := z.frozen 0
        have z1 : w2.frozen? ⟨W.heap.size + 1 + 1, 1, none⟩ = false := z.frozen 1
        clear z
        clear hb H
        go_wp2
        refine bodyPost_ret (v := vecE ((p, q), 0)) ((H2.out.1.set2 p q).result2 (by rfl) _ rfl rfl) rfl ?_
        exact ⟨rfl, (H2.out.2.2.2.setCell (by simp; omega) _).setCell (by simp; omega) _⟩
  · intro i o ho d vs w hl hJ hi hw
    match vs, hl with
    | [x0, x1, x2, x3, x4, x5, x6, x7], _ =>
    have hin : i < 8 := (List.getElem?_eq_some_iff.1 ho).1
    obtain ⟨j0, j1, o2, j3, j4, o5, a6, a7, u2_5, jb⟩ := hJ
    simp only [List.getElem?_cons_zero, List.getElem?_cons_succ, Option.some.injEq, Option.getD_some] at j0 j1 o2 j3 j4 o5 a6 a7 u2_5
    rcases (show i = 0 ∨ i = 1 ∨ i = 2 ∨ i = 3 ∨ i = 4 ∨ i = 5 ∨ i = 6 ∨ i = 7 by omega) with rfl | rfl | rfl | rfl | rfl | rfl | rfl | rfl
    · simp only [List.getElem?_cons_zero, List.getElem?_cons_succ, Option.some.injEq] at ho
      subst ho
      have h0 := (VA.out.later jb VA.out.lt).c0
      have h1 := (VA.out.later jb VA.out.lt).c1
      simp only [putL, Act.put, List.setIfInBounds_toArray, List.set_cons_succ, List.set_cons_zero] at h0 h1 ⊢
      go_wp2
      exact ⟨rfl, [_, x1, x2, x3, x4, x5, x6, x7], rfl, (by simp only [putL, Act.put, List.setIfInBounds_toArray, List.set_cons_succ, List.set_cons_zero]), (fun _ => rfl), j1, o2, j3, j4, o5, a6, a7, u2_5, jb⟩
    · simp only [List.getElem?_cons_zero, List.getElem?_cons_succ, Option.some.injEq] at ho
      subst ho
      simp only [putL, Act.put, List.setIfInBounds_toArray, List.set_cons_succ, List.set_cons_zero]
      go_wp2
      exact ⟨rfl, [x0, _, x2, x3, x4, x5, x6, x7], rfl, (by simp only [putL, Act.put, List.setIfInBounds_toArray, List.set_cons_succ, List.set_cons_zero]), j0, (fun _ => rfl), o2, j3, j4, o5, a6, a7, u2_5, jb⟩
    · simp only [List.getElem?_cons_zero, List.getElem?_cons_succ, Option.some.injEq] at ho
      subst ho
      obtain rfl := j0 (List.all_eq_true.1 hw 0 (by decide))
      obtain rfl := j1 (List.all_eq_true.1 hw 1 (by decide))
      simp only [putL, Act.put, List.setIfInBounds_toArray, List.set_cons_succ, List.set_cons_zero]
      go_wp2_with ((with_reducible refine (CA.out _).mono ?_); rintro e w1 hpost; obtain ⟨g, cap, hg, rfl, hcap, hx, hb⟩ := list_x hpost)
      exact ⟨rfl, [_, _, _, x3, x4, x5, x6, x7], rfl, (by simp only [putL, Act.put, List.setIfInBounds_toArray, List.set_cons_succ, List.set_cons_zero]), (fun _ => rfl), (fun _ => rfl), (fun _ => ⟨g, cap, rfl, Nat.le_trans jb.size hg, hcap, hx⟩), j3, j4, (o5.later hb), (fun h => nomatch ((a6 h).1.symm.trans hi)), a7, (fun _ h => Ne.symm (o5.ne h hg)), jb.trans (hb.mono jb.size)⟩
    · simp only [List.getElem?_cons_zero, List.getElem?_cons_succ, Option.some.injEq] at ho
      subst ho
      have h0 := (VB.out.later jb VB.out.lt).c0
      have h1 := (VB.out.later jb VB.out.lt).c1
      simp only [putL, Act.put, List.setIfInBounds_toArray, List.set_cons_succ, List.set_cons_zero] at h0 h1 ⊢
      go_wp2
      exact ⟨rfl, [x0, x1, x2, _, x4, x5, x6, x7], rfl, (by simp only [putL, Act.put, List.setIfInBounds_toArray, List.set_cons_succ, List.set_cons_zero]), j0, j1, o2, (fun _ => rfl), j4, o5, a6, a7, u2_5, jb⟩
    · simp only [List.getElem?_cons_zero, List.getElem?_cons_succ, Option.some.injEq] at ho
      subst ho
      simp only [putL, Act.put, List.setIfInBounds_toArray, List.set_cons_succ, List.set_cons_zero]
      go_wp2
      exact ⟨rfl, [x0, x1, x2, x3, _, x5, x6, x7], rfl, (by simp only [putL, Act.put, List.setIfInBounds_toArray, List.set_cons_succ, List.set_cons_zero]), j0, j1, o2, j3, (fun _ => rfl), o5, a6, a7, u2_5, jb⟩
    · simp only [List.getElem?_cons_zero, List.getElem?_cons_succ, Option.some.injEq] at ho
      subst ho
      obtain rfl := j3 (List.all_eq_true.1 hw 3 (by decide))
      obtain rfl := j4 (List.all_eq_true.1 hw 4 (by decide))
      simp only [putL, Act.put, List.setIfInBounds_toArray, List.set_cons_succ, List.set_cons_zero]
      go_wp2_with ((with_reducible refine (CB.out _).mono ?_); rintro e w1 hpost; obtain ⟨g, cap, hg, rfl, hcap, hx, hb⟩ := list_x hpost)
      exact ⟨rfl, [x0, x1, x2, _, _, _, x6, x7], rfl, (by simp only [putL, Act.put, List.setIfInBounds_toArray, List.set_cons_succ, List.set_cons_zero]), j0, j1, (o2.later hb), (fun _ => rfl), (fun _ => rfl), (fun _ => ⟨g, cap, rfl, Nat.le_trans jb.size hg, hcap, hx⟩), a6, (fun h => nomatch ((a7 h).1.symm.trans hi)), (fun h _ => o2.ne h hg), jb.trans (hb.mono jb.size)⟩
    · simp only [List.getElem?_cons_zero, List.getElem?_cons_succ, Option.some.injEq] at ho
      subst ho
      have hd : d 2 = true := List.all_eq_true.1 hw 2 (by decide)
      simp only [putL, Act.put, List.setIfInBounds_toArray, List.set_cons_succ, List.set_cons_zero]
      go_wp2
      exact ⟨rfl, [x0, x1, x2, x3, x4, x5, _, x7], rfl, (by simp only [putL, Act.put, List.setIfInBounds_toArray, List.set_cons_succ, List.set_cons_zero]), j0, j1, o2, j3, j4, o5, (fun _ => ⟨hd, rfl⟩), a7, u2_5, jb⟩
    · simp only [List.getElem?_cons_zero, List.getElem?_cons_succ, Option.some.injEq] at ho
      subst ho
      have hd : d 5 = true := List.all_eq_true.1 hw 5 (by decide)
      simp only [putL, Act.put, List.setIfInBounds_toArray, List.set_cons_succ, List.set_cons_zero]
      go_wp2
      exact ⟨rfl, [x0, x1, x2, x3, x4, x5, x6, _], rfl, (by simp only [putL, Act.put, List.setIfInBounds_toArray, List.set_cons_succ, List.set_cons_zero]), j0, j1, o2, j3, j4, o5, a6, (fun _ => ⟨hd, rfl⟩), u2_5, jb⟩

set_option maxHeartbeats 8000000 in
theorem rf2_bad (op w c a0 a1 b0 b1 p q : Nat) (fa fb f : Nat → Nat) (hc16 : c ≤ 16) (hc2 : 2 ≤ c)
    (CW : Hide (∀ W : World, Calls Tryd.prog 29 #[.int .i64 (w : Int)] W fun e W' => e = .returned (.bool true) ∧ W' = W))
    (CA : Hide (∀ W : World, Calls Tryd.prog 30 #[vecV (a0, a1), .int .i64 (w : Int)] W fun e W' => ListPost W c ((List.range c).map fa) e W'))
    (CB : Hide (∀ W : World, Calls Tryd.prog 30 #[vecV (b0, b1), .int .i64 (w : Int)] W fun e W' => ListPost W c ((List.range c).map fb) e W'))
    (CT : Hide (∀ i, i < c → ∀ W : World, Calls Tryd.prog 31 #[.int .u8 (op : Int), .int .i64 (w : Int), .int .u64 (fa i : Int), .int .u64 (fb i : Int)] W fun e W' => e = .returned (.tuple #[.int .u64 0, .int .i64 2]) ∧ Below W.heap.size W W'))
    (CV : Hide (∀ (W : World) (g cap : Nat), XBlk W g c ((List.range c).map f) → Calls Tryd.prog 32 #[.int .i64 (w : Int), .slice (some ⟨g, 0, none⟩) c cap] W fun e W' => e = .returned (vecV (p, q)) ∧ Below W.heap.size W W'))
    (W : World) :
    Calls Tryd.prog 10 #[.int .u8 (op : Int), .int .i64 (w : Int), vecV (a0, a1), vecV (b0, b1)] W fun e W' => e = .returned (vecE ((0, 0), 2)) ∧ Below W.heap.size W W' := by
  obtain ⟨wa, hwa⟩ : ∃ wa, ((W.alloc (.cells #[.int .u64 (a0 : Int), .int .u64 (a1 : Int)] 25)).alloc (.cells #[.int .u64 (b0 : Int), .int .u64 (b1 : Int)] 25)).alloc (.cells #[.int .u64 0, .int .u64 0] 25) = wa := ⟨_, rfl⟩
  have VA : Hide (VBlk wa W.heap.size (a0, a1)) := hide (by rw [← hwa]; exact alloc_past (alloc_past (alloc_at rfl)))
  have VB : Hide (VBlk wa (W.heap.size + 1) (b0, b1)) := hide (by rw [← hwa]; exact alloc_past (alloc_at (by simp)))
  have ZB : Hide (VBlk wa (W.heap.size + 1 + 1) (0, 0)) := hide (by rw [← hwa]; exact alloc_at (by simp))
  have BA : Hide (Below W.heap.size W wa) := hide (by rw [← hwa]; exact (((Below.refl _ _).alloc (Nat.le_refl _) _).alloc (by simp) _).alloc (by simp; omega) _)
  have HWA := hide hwa
  clear hwa
  unfold vecV at CA CB CV ⊢
  simp only at CA CB CV ⊢
  go_enter Tryd.func10, Tryd.ntmps10
  go_wp2_with ((with_reducible refine (CW.out _).mono ?_); rintro e w0 ⟨rfl, rfl⟩)
  rw [HWA.out]
  refine wp_region_par [19, 20, 21, 22, 23, 24, 10, 11] (ListsJ (.agg #[.int .u64 (a0 : Int), .int .u64 (a1 : Int)]) (.agg #[.int .u64 (b0 : Int), .int .u64 (b1 : Int)]) w c ((List.range c).map fa) ((List.range c).map fb) wa) (by kernel_rfl) (by kernel_rfl) ?_ ?_ ?_
  · intro vs
    exact ⟨(fun h => by cases h), (fun h => by cases h), (fun h => by cases h), (fun h => by cases h), (fun h => by cases h), (fun h => by cases h), (fun h => by cases h), (fun h => by cases h), (fun h => by cases h), (Below.refl _ _).drew⟩
  · intro d vs w1 hd hl hJ
    match vs, hl with
    | [x0, x1, x2, x3, x4, x5, x6, x7], _ =>
    obtain ⟨j0, j1, o2, j3, j4, o5, a6, a7, u2_5, jb⟩ := hJ
    obtain rfl := j0 (hd 0 (by decide))
    obtain rfl := j1 (hd 1 (by decide))
    obtain rfl := j3 (hd 3 (by decide))
    obtain rfl := j4 (hd 4 (by decide))
    have e6 := (a6 (hd 6 (by decide))).2
    simp only [List.getElem?_cons_zero, List.getElem?_cons_succ, Option.getD_some] at e6
    subst e6
    have e7 := (a7 (hd 7 (by decide))).2
    simp only [List.getElem?_cons_zero, List.getElem?_cons_succ, Option.getD_some] at e7
    subst e7
    obtain ⟨g1, cap1, e2, hg1, hc1, hx1⟩ := o2 (hd 2 (by decide))
    simp only [List.getElem?_cons_zero, List.getElem?_cons_succ, Option.getD_some] at e2
    subst e2
    obtain ⟨g2, cap2, e5, hg2, hc2, hx2⟩ := o5 (hd 5 (by decide))
    simp only [List.getElem?_cons_zero, List.getElem?_cons_succ, Option.getD_some] at e5
    subst e5
    have hne : g1 ≠ g2 := u2_5 (hd 2 (by decide)) (hd 5 (by decide))
    have JB := hide jb
    have K1 := hide hx1
    have K2 := hide hx2
    clear hd hl jb j0 j1 o2 j3 j4 o5 a6 a7 u2_5 hx1 hx2
    simp only [putL, Act.put, List.setIfInBounds_toArray, List.set_cons_succ, List.set_cons_zero]
    have ZW := hide (ZB.out.later JB.out ZB.out.lt)
    have BW := hide (BA.out.trans (JB.out.mono BA.out.size))
    have S0 : Hide (TwAt W (W.heap.size + 1 + 1) g1 g2 c (mixC c f fa 0) ((List.range c).map fb) w1) := hide ⟨ZW.out, by rw [mix_zero]; exact K1.out, K2.out, BW.out⟩
    have HG : Hide (W.heap.size + 1 + 1 < g1) := hide (by have := ZB.out.lt; omega)
    have HN : Hide (g2 ≠ g1) := hide (Ne.symm hne)
    clear K1 K2 BW JB ZW VA VB ZB BA HWA CA CB hne hg1 hg2 hc1 hc2
    go_wp2_with fail
    go_loopw [12] (fun x wr => ∃ k : Nat, x = .int .i64 (k : Int) ∧ k = 0 ∧ TwAt W (W.heap.size + 1 + 1) g1 g2 c (mixC c f fa k) ((List.range c).map fb) wr) (fun x _ => c - (intOf x).toNat)
    case atStart => exact ⟨0, rfl, rfl, S0.out⟩
    case round =>
      obtain ⟨k, rfl, hk, hr⟩ := hrel
      have H := hide hr
      clear hr S0
      have c00 : k < c := by omega
      clear hk
      by_cases c0 : k < c
      · have c1 : (k : Int) < (c : Int) := by omega
        have c2 : (k : Int) < 16 := by omega
        have hA : wr.cell? ⟨g1, k, none⟩ = some (.int .u64 (fa k : Int)) := by
          have := H.out.2.1.cell k c0
          rwa [mix_at c f fa k k c0, if_neg (by omega)] at this
        have hB : wr.cell? ⟨g2, k, none⟩ = some (.int .u64 (fb k : Int)) := by
          have := H.out.2.2.1.cell k c0
          rwa [show at0 ((List.range c).map fb) k = fb k by simp [at0, List.getElem?_range c0]] at this
        have hz : wr.frozen? ⟨g1, k, none⟩ = false := H.out.2.1.frozen k
        have ST := hide (mix_set c f fa k c0)
        have CK := hide (CT.out k c0)
        have HC := hide c0
        clear CT c0 c00
        generalize fa k = xa at *
        generalize fb k = xb at *
        obtain ⟨I, F, _, hF, hin⟩ := family wr
        have E := hide (in_family hF hin (f := 31) (args := #[.int .u8 (op : Int), .int .i64 (w : Int), .int .u64 (xa : Int), .int .u64 (xb : Int)]) (r := .returned (.tuple #[.int .u64 0, .int .i64 2])) (fun W1 hW1 => (CK.out W1).mono fun e' W'' ⟨he, hb⟩ => ⟨he, hW1.trans (hb.mono hW1.size)⟩))
        have k0 : ∀ i, (F i).cell? ⟨g1, k, none⟩ = some (.int .u64 (xa : Int)) := fun i => cell_later (hF i) hA (Nat.le_refl _)
        have k1 : ∀ i, (F i).cell? ⟨g2, k, none⟩ = some (.int .u64 (xb : Int)) := fun i => cell_later (hF i) hB (Nat.le_refl _)
        have r0 : ∀ i, (F i).cell? ⟨W.heap.size + 1 + 1, 0, none⟩ = some (.int .u64 0) := fun i => (H.out.later (hF i)).1.c0
        have r1 : ∀ i, (F i).cell? ⟨W.heap.size + 1 + 1, 1, none⟩ = some (.int .u64 0) := fun i => (H.out.later (hF i)).1.c1
        have z0 : ∀ i, (F i).frozen? ⟨W.heap.size + 1 + 1, 0, none⟩ = false := fun i => (H.out.later (hF i)).1.frozen 0
        have z1 : ∀ i, (F i).frozen? ⟨W.heap.size + 1 + 1, 1, none⟩ = false := fun i => (H.out.later (hF i)).1.frozen 1
        have HF := hide hF
        have IN := hide hin
        clear hF hin CK hA hB hz
        go_wp2_with fail
        refine wp_region_class F (by kernel_rfl) (by kernel_rfl) ?_ ?_
        · exact IN.out _ (Below.refl _ _).drew
        repeat (refine wpQuiet_step (fun K hK => ?_); go_simp; first | (refine hK _ ?_; clear hK K) | (apply Exists.intro; refine ⟨fun _ => ?_, hK _ ?_⟩; (first | exact E.out _); clear hK K))
        refine wpQuiet_nil ?_
        rintro _ ⟨i, rfl⟩
        go_wp2
        refine bodyPost_ret (v := vecE ((0, 0), 2)) (((H.out.later (HF.out i)).1.set2 0 0).result2 (by rfl) _ rfl rfl) rfl ?_
        exact ⟨rfl, ((H.out.later (HF.out i)).2.2.2.setCell (by simp; omega) _).setCell (by simp; omega) _⟩
      · exact absurd c00 c0
  · intro i o ho d vs w hl hJ hi hw
    match vs, hl with
    | [x0, x1, x2, x3, x4, x5, x6, x7], _ =>
    have hin : i < 8 := (List.getElem?_eq_some_iff.1 ho).1
    obtain ⟨j0, j1, o2, j3, j4, o5, a6, a7, u2_5, jb⟩ := hJ
    simp only [List.getElem?_cons_zero, List.getElem?_cons_succ, Option.some.injEq, Option.getD_some] at j0 j1 o2 j3 j4 o5 a6 a7 u2_5
    rcases (show i = 0 ∨ i = 1 ∨ i = 2 ∨ i = 3 ∨ i = 4 ∨ i = 5 ∨ i = 6 ∨ i = 7 by omega) with rfl | rfl | rfl | rfl | rfl | rfl | rfl | rfl
    · simp only [List.getElem?_cons_zero, List.getElem?_cons_succ, Option.some.injEq] at ho
      subst ho
      have h0 := (VA.out.later jb VA.out.lt).c0
      have h1 := (VA.out.later jb VA.out.lt).c1
      simp only [putL, Act.put, List.setIfInBounds_toArray, List.set_cons_succ, List.set_cons_zero] at h0 h1 ⊢
      go_wp2
      exact ⟨rfl, [_, x1, x2, x3, x4, x5, x6, x7], rfl, (by simp only [putL, Act.put, List.setIfInBounds_toArray, List.set_cons_succ, List.set_cons_zero]), (fun _ => rfl), j1, o2, j3, j4, o5, a6, a7, u2_5, jb⟩
    · simp only [List.getElem?_cons_zero, List.getElem?_cons_succ, Option.some.injEq] at ho
      subst ho
      simp only [putL, Act.put, List.setIfInBounds_toArray, List.set_cons_succ, List.set_cons_zero]
      go_wp2
      exact ⟨rfl, [x0, _, x2, x3, x4, x5, x6, x7], rfl, (by simp only [putL, Act.put, List.setIfInBounds_toArray, List.set_cons_succ, List.set_cons_zero]), j0, (fun _ => rfl), o2, j3, j4, o5, a6, a7, u2_5, jb⟩
    · simp only [List.getElem?_cons_zero, List.getElem?_cons_succ, Option.some.injEq] at ho
      subst ho
      obtain rfl := j0 (List.all_eq_true.1 hw 0 (by decide))
      obtain rfl := j1 (List.all_eq_true.1 hw 1 (by decide))
      simp only [putL, Act.put, List.setIfInBounds_toArray, List.set_cons_succ, List.set_cons_zero]
      go_wp2_with ((with_reducible refine (CA.out _).mono ?_); rintro e w1 hpost; obtain ⟨g, cap, hg, rfl, hcap, hx, hb⟩ := list_x hpost)
      exact ⟨rfl, [_, _, _, x3, x4, x5, x6, x7], rfl, (by simp only [putL, Act.put, List.setIfInBounds_toArray, List.set_cons_succ, List.set_cons_zero]), (fun _ => rfl), (fun _ => rfl), (fun _ => ⟨g, cap, rfl, Nat.le_trans jb.size hg, hcap, hx⟩), j3, j4, (o5.later hb), (fun h => nomatch ((a6 h).1.symm.trans hi)), a7, (fun _ h => Ne.symm (o5.ne h hg)), jb.trans (hb.mono jb.size)⟩
    · simp only [List.getElem?_cons_zero, List.getElem?_cons_succ, Option.some.injEq] at ho
      subst ho
      have h0 := (VB.out.later jb VB.out.lt).c0
      have h1 := (VB.out.later jb VB.out.lt).c1
      simp only [putL, Act.put, List.setIfInBounds_toArray, List.set_cons_succ, List.set_cons_zero] at h0 h1 ⊢
      go_wp2
      exact ⟨rfl, [x0, x1, x2, _, x4, x5, x6, x7], rfl, (by simp only [putL, Act.put, List.setIfInBounds_toArray, List.set_cons_succ, List.set_cons_zero]), j0, j1, o2, (fun _ => rfl), j4, o5, a6, a7, u2_5, jb⟩
    · simp only [List.getElem?_cons_zero, List.getElem?_cons_succ, Option.some.injEq] at ho
      subst ho
      simp only [putL, Act.put, List.setIfInBounds_toArray, List.set_cons_succ, List.set_cons_zero]
      go_wp2
      exact ⟨rfl, [x0, x1, x2, x3, _, x5, x6, x7], rfl, (by simp only [putL, Act.put, List.setIfInBounds_toArray, List.set_cons_succ, List.set_cons_zero]), j0, j1, o2, j3, (fun _ => rfl), o5, a6, a7, u2_5, jb⟩
    · simp only [List.getElem?_cons_zero, List.getElem?_cons_succ, Option.some.injEq] at ho
      subst ho
      obtain rfl := j3 (List.all_eq_true.1 hw 3 (by decide))
      obtain rfl := j4 (List.all_eq_true.1 hw 4 (by decide))
      simp only [putL, Act.put, List.setIfInBounds_toArray, List.set_cons_succ, List.set_cons_zero]
      go_wp2_with ((with_reducible refine (CB.out _).mono ?_); rintro e w1 hpost; obtain ⟨g, cap, hg, rfl, hcap, hx, hb⟩ := list_x hpost)
      exact ⟨rfl, [x0, x1, x2, _, _, _, x6, x7], rfl, (by simp only [putL, Act.put, List.setIfInBounds_toArray, List.set_cons_succ, List.set_cons_zero]), j0, j1, (o2.later hb), (fun _ => rfl), (fun _ => rfl), (fun _ => ⟨g, cap, rfl, Nat.le_trans jb.size hg, hcap, hx⟩), a6, (fun h => nomatch ((a7 h).1.symm.trans hi)), (fun h _ => o2.ne h hg), jb.trans (hb.mono jb.size)⟩
    · simp only [List.getElem?_cons_zero, List.getElem?_cons_succ, Option.some.injEq] at ho
      subst ho
      have hd : d 2 = true := List.all_eq_true.1 hw 2 (by decide)
      simp only [putL, Act.put, List.setIfInBounds_toArray, List.set_cons_succ, List.set_cons_zero]
      go_wp2
      exact ⟨rfl, [x0, x1, x2, x3, x4, x5, _, x7], rfl, (by simp only [putL, Act.put, List.setIfInBounds_toArray, List.set_cons_succ, List.set_cons_zero]), j0, j1, o2, j3, j4, o5, (fun _ => ⟨hd, rfl⟩), a7, u2_5, jb⟩
    · simp only [List.getElem?_cons_zero, List.getElem?_cons_succ, Option.some.injEq] at ho
      subst ho
      have hd : d 5 = true := List.all_eq_true.1 hw 5 (by decide)
      simp only [putL, Act.put, List.setIfInBounds_toArray, List.set_cons_succ, List.set_cons_zero]
      go_wp2
      exact ⟨rfl, [x0, x1, x2, x3, x4, x5, x6, _], rfl, (by simp only [putL, Act.put, List.setIfInBounds_toArray, List.set_cons_succ, List.set_cons_zero]), j0, j1, o2, j3, j4, o5, a6, (fun _ => ⟨hd, rfl⟩), u2_5, jb⟩

end Go.Proofs.YtpeckiaimellmaaDoor
/-
  The document's Than of lanes of floats.
-/
set_option linter.unusedVariables false
set_option linter.unusedSimpArgs false
namespace Go.Proofs.YtpeckiaimellmaaDoor
open Go.RowKit Lan

set_option maxHeartbeats 8000000 in
theorem rft_ok (op w c a0 a1 b0 b1 p q : Nat) (fa fb f : Nat → Nat) (hc16 : c ≤ 16) (hc2 : 2 ≤ c)
    (tt : Nat → Bool) (m : Nat) (HT : Hide (∀ i, f i = if tt i then m else 0)) (CM : Hide (∀ W : World, Calls Tryd.prog 41 #[.int .i64 (w : Int)] W fun e W' => e = .returned (.int .u64 (m : Int)) ∧ W' = W))
    (CW : Hide (∀ W : World, Calls Tryd.prog 29 #[.int .i64 (w : Int)] W fun e W' => e = .returned (.bool true) ∧ W' = W))
    (CA : Hide (∀ W : World, Calls Tryd.prog 30 #[vecV (a0, a1), .int .i64 (w : Int)] W fun e W' => ListPost W c ((List.range c).map fa) e W'))
    (CB : Hide (∀ W : World, Calls Tryd.prog 30 #[vecV (b0, b1), .int .i64 (w : Int)] W fun e W' => ListPost W c ((List.range c).map fb) e W'))
    (CT : Hide (∀ i, i < c → ∀ W : World, Calls Tryd.prog 40 #[.int .u8 (op : Int), .int .i64 (w : Int), .int .u64 (fa i : Int), .int .u64 (fb i : Int)] W fun e W' => e = .returned (.tuple #[.bool (tt i), .int .i64 0]) ∧ W' = W))
    (CV : Hide (∀ (W : World) (g cap : Nat), XBlk W g c ((List.range c).map f) → Calls Tryd.prog 32 #[.int .i64 (w : Int), .slice (some ⟨g, 0, none⟩) c cap] W fun e W' => e = .returned (vecV (p, q)) ∧ Below W.heap.size W W'))
    (W : World) :
    Calls Tryd.prog 15 #[.int .u8 (op : Int), .int .i64 (w : Int), vecV (a0, a1), vecV (b0, b1)] W fun e W' => e = .returned (vecE ((p, q), 0)) ∧ Below W.heap.size W W' := by
  obtain ⟨wa, hwa⟩ : ∃ wa, ((W.alloc (.cells #[.int .u64 (a0 : Int), .int .u64 (a1 : Int)] 25)).alloc (.cells #[.int .u64 (b0 : Int), .int .u64 (b1 : Int)] 25)).alloc (.cells #[.int .u64 0, .int .u64 0] 25) = wa := ⟨_, rfl⟩
  have VA : Hide (VBlk wa W.heap.size (a0, a1)) := hide (by rw [← hwa]; exact alloc_past (alloc_past (alloc_at rfl)))
  have VB : Hide (VBlk wa (W.heap.size + 1) (b0, b1)) := hide (by rw [← hwa]; exact alloc_past (alloc_at (by simp)))
  have ZB : Hide (VBlk wa (W.heap.size + 1 + 1) (0, 0)) := hide (by rw [← hwa]; exact alloc_at (by simp))
  have BA : Hide (Below W.heap.size W wa) := hide (by rw [← hwa]; exact (((Below.refl _ _).alloc (Nat.le_refl _) _).alloc (by simp) _).alloc (by simp; omega) _)
  have HWA := hide hwa
  clear hwa
  unfold vecV at CA CB CV ⊢
  simp only at CA CB CV ⊢
  go_enter Tryd.func15, Tryd.ntmps15
  go_wp2_with ((with_reducible refine (CW.out _).mono ?_); rintro e w0 ⟨rfl, rfl⟩)
  rw [HWA.out]
  refine wp_region_par [19, 20, 21, 22, 23, 24, 10, 11] (ListsJ (.agg #[.int .u64 (a0 : Int), .int .u64 (a1 : Int)]) (.agg #[.int .u64 (b0 : Int), .int .u64 (b1 : Int)]) w c ((List.range c).map fa) ((List.range c).map fb) wa) (by kernel_rfl) (by kernel_rfl) ?_ ?_ ?_
  · intro vs
    exact ⟨(fun h => by cases h), (fun h => by cases h), (fun h => by cases h), (fun h => by cases h), (fun h => by cases h), (fun h => by cases h), (fun h => by cases h), (fun h => by cases h), (fun h => by cases h), (Below.refl _ _).drew⟩
  · intro d vs w1 hd hl hJ
    match vs, hl with
    | [x0, x1, x2, x3, x4, x5, x6, x7], _ =>
    obtain ⟨j0, j1, o2, j3, j4, o5, a6, a7, u2_5, jb⟩ := hJ
    obtain rfl := j0 (hd 0 (by decide))
    obtain rfl := j1 (hd 1 (by decide))
    obtain rfl := j3 (hd 3 (by decide))
    obtain rfl := j4 (hd 4 (by decide))
    have e6 := (a6 (hd 6 (by decide))).2
    simp only [List.getElem?_cons_zero, List.getElem?_cons_succ, Option.getD_some] at e6
    subst e6
    have e7 := (a7 (hd 7 (by decide))).2
    simp only [List.getElem?_cons_zero, List.getElem?_cons_succ, Option.getD_some] at e7
    subst e7
    obtain ⟨g1, cap1, e2, hg1, hc1, hx1⟩ := o2 (hd 2 (by decide))
    simp only [List.getElem?_cons_zero, List.getElem?_cons_succ, Option.getD_some] at e2
    subst e2
    obtain ⟨g2, cap2, e5, hg2, hc2, hx2⟩ := o5 (hd 5 (by decide))
    simp only [List.getElem?_cons_zero, List.getElem?_cons_succ, Option.getD_some] at e5
    subst e5
    have hne : g1 ≠ g2 := u2_5 (hd 2 (by decide)) (hd 5 (by decide))
    have JB := hide jb
    have K1 := hide hx1
    have K2 := hide hx2
    clear hd hl jb j0 j1 o2 j3 j4 o5 a6 a7 u2_5 hx1 hx2
    simp only [putL, Act.put, List.setIfInBounds_toArray, List.set_cons_succ, List.set_cons_zero]
    have ZW := hide (ZB.out.later JB.out ZB.out.lt)
    have BW := hide (BA.out.trans (JB.out.mono BA.out.size))
    have S0 : Hide (TwAt W (W.heap.size + 1 + 1) g1 g2 c (mixC c f fa 0) ((List.range c).map fb) w1) := hide ⟨ZW.out, by rw [mix_zero]; exact K1.out, K2.out, BW.out⟩
    have HG : Hide (W.heap.size + 1 + 1 < g1) := hide (by have := ZB.out.lt; omega)
    have HN : Hide (g2 ≠ g1) := hide (Ne.symm hne)
    clear K1 K2 BW JB ZW VA VB ZB BA HWA CA CB hne hg1 hg2 hc1 hc2
    go_wp2_with fail
    go_loopw [12] (fun x wr => ∃ k : Nat, x = .int .i64 (k : Int) ∧ k ≤ c ∧ TwAt W (W.heap.size + 1 + 1) g1 g2 c (mixC c f fa k) ((List.range c).map fb) wr) (fun x _ => c - (intOf x).toNat)
    case atStart => exact ⟨0, rfl, by omega, S0.out⟩
    case round =>
      obtain ⟨k, rfl, hk, hr⟩ := hrel
      have H := hide hr
      clear hr S0
      by_cases c0 : k < c
      · have c1 : (k : Int) < (c : Int) := by omega
        have c2 : (k : Int) < 16 := by omega
        have hA : wr.cell? ⟨g1, k, none⟩ = some (.int .u64 (fa k : Int)) := by
          have := H.out.2.1.cell k c0
          rwa [mix_at c f fa k k c0, if_neg (by omega)] at this
        have hB : wr.cell? ⟨g2, k, none⟩ = some (.int .u64 (fb k : Int)) := by
          have := H.out.2.2.1.cell k c0
          rwa [show at0 ((List.range c).map fb) k = fb k by simp [at0, List.getElem?_range c0]] at this
        have hz : wr.frozen? ⟨g1, k, none⟩ = false := H.out.2.1.frozen k
        have ST := hide (mix_set c f fa k c0)
        have CK := hide (CT.out k c0)
        have HC := hide c0
        clear CT c0
        generalize fa k = xa at *
        generalize fb k = xb at *
        obtain ⟨t, ht⟩ : ∃ t, tt k = t := ⟨_, rfl⟩
        have hy := HT.out k
        rw [ht] at CK hy
        go_wp2_with fail
        go_quiet (with_reducible refine Calls.quiet_of_same (CK.out _))
        cases t with
        | true =>
          rw [if_pos rfl] at hy
          rw [hy] at ST
          clear hy ht
          go_wp2_with ((with_reducible refine (CM.out _).mono ?_); rintro e w0 ⟨rfl, rfl⟩)
          go_roundw
          case rel =>
            refine ⟨k + 1, by go_num, HC.out, ?_⟩
            have h5 := ((H.out.drewN nq).put (mix_length c f fa k) k 0 HC.out (by have := HG.out; omega) HN.out (by have := HG.out; omega)).put (by rw [List.length_set]; exact mix_length c f fa k) k m HC.out (by have := HG.out; omega) HN.out (by have := HG.out; omega)
            rw [List.set_set, ST.out] at h5
            exact h5
          case measure => have := HC.out; simp [intOf]; omega
        | false =>
          rw [if_neg (by decide)] at hy
          rw [hy] at ST
          clear hy ht
          go_wp2
          go_roundw
          case rel =>
            refine ⟨k + 1, by go_num, HC.out, ?_⟩
            have h5 := (H.out.drewN nq).put (mix_length c f fa k) k 0 HC.out (by have := HG.out; omega) HN.out (by have := HG.out; omega)
            rw [ST.out] at h5
            exact h5
          case measure => have := HC.out; simp [intOf]; omega
      · obtain rfl : k = c := by omega
        rw [mix_all] at H
        have CK := hide (fun cap => CV.out wr g1 cap H.out.2.1)
        clear CT CV c0
        go_wp2_with fail
        refine (CK.out _).mono ?_
        rintro e w2 ⟨rfl, hb⟩
        have H2 := hide (H.out.later hb)
        have z := H2.out.1
        have r0 : w2.cell? ⟨W.heap.size + 1 + 1, 0, none⟩ = some (.int .u64 0) := z.c0
        have r1 : w2.cell? ⟨W.heap.size + 1 + 1, 1, none⟩ = some (.int .u64 0) := z.c1
        have z0 : w2.frozen? ⟨W.heap.size + 1 + 1, 0, none⟩ = false := z.frozen 0
        have z1 : w2.frozen? ⟨W.heap.size + 1 + 1, 1, none⟩ = false := z.frozen 1
        clear z
        clear hb H
        go_wp2
        refine bodyPost_ret (v := vecE ((p, q), 0)) ((H2.out.1.set2 p q).result2 (by rfl) _ rfl rfl) rfl ?_
        exact ⟨rfl, (H2.out.2.2.2.setCell (by simp; omega) _).setCell (by simp; omega) _⟩
  · intro i o ho d vs w hl hJ hi hw
    match vs, hl with
    | [x0, x1, x2, x3, x4, x5, x6, x7], _ =>
    have hin : i < 8 := (List.getElem?_eq_some_iff.1 ho).1
    obtain ⟨j0, j1, o2, j3, j4, o5, a6, a7, u2_5, jb⟩ := hJ
    simp only [List.getElem?_cons_zero, List.getElem?_cons_succ, Option.some.injEq, Option.getD_some] at j0 j1 o2 j3 j4 o5 a6 a7 u2_5
    rcases (show i = 0 ∨ i = 1 ∨ i = 2 ∨ i = 3 ∨ i = 4 ∨ i = 5 ∨ i = 6 ∨ i = 7 by omega) with rfl | rfl | rfl | rfl | rfl | rfl | rfl | rfl
    · simp only [List.getElem?_cons_zero, List.getElem?_cons_succ, Option.some.injEq] at ho
      subst ho
      have h0 := (VA.out.later jb VA.out.lt).c0
      have h1 := (VA.out.later jb VA.out.lt).c1
      simp only [putL, Act.put, List.setIfInBounds_toArray, List.set_cons_succ, List.set_cons_zero] at h0 h1 ⊢
      go_wp2
      exact ⟨rfl, [_, x1, x2, x3, x4, x5, x6, x7], rfl, (by simp only [putL, Act.put, List.setIfInBounds_toArray, List.set_cons_succ, List.set_cons_zero]), (fun _ => rfl), j1, o2, j3, j4, o5, a6, a7, u2_5, jb⟩
    · simp only [List.getElem?_cons_zero, List.getElem?_cons_succ, Option.some.injEq] at ho
      subst ho
      simp only [putL, Act.put, List.setIfInBounds_toArray, List.set_cons_succ, List.set_cons_zero]
      go_wp2
      exact ⟨rfl, [x0, _, x2, x3, x4, x5, x6, x7], rfl, (by simp only [putL, Act.put, List.setIfInBounds_toArray, List.set_cons_succ, List.set_cons_zero]), j0, (fun _ => rfl), o2, j3, j4, o5, a6, a7, u2_5, jb⟩
    · simp only [List.getElem?_cons_zero, List.getElem?_cons_succ, Option.some.injEq] at ho
      subst ho
      obtain rfl := j0 (List.all_eq_true.1 hw 0 (by decide))
      obtain rfl := j1 (List.all_eq_true.1 hw 1 (by decide))
      simp only [putL, Act.put, List.setIfInBounds_toArray, List.set_cons_succ, List.set_cons_zero]
      go_wp2_with ((with_reducible refine (CA.out _).mono ?_); rintro e w1 hpost; obtain ⟨g, cap, hg, rfl, hcap, hx, hb⟩ := list_x hpost)
      exact ⟨rfl, [_, _, _, x3, x4, x5, x6, x7], rfl, (by simp only [putL, Act.put, List.setIfInBounds_toArray, List.set_cons_succ, List.set_cons_zero]), (fun _ => rfl), (fun _ => rfl), (fun _ => ⟨g, cap, rfl, Nat.le_trans jb.size hg, hcap, hx⟩), j3, j4, (o5.later hb), (fun h => nomatch ((a6 h).1.symm.trans hi)), a7, (fun _ h => Ne.symm (o5.ne h hg)), jb.trans (hb.mono jb.size)⟩
    · simp only [List.getElem?_cons_zero, List.getElem?_cons_succ, Option.some.injEq] at ho
      subst ho
      have h0 := (VB.out.later jb VB.out.lt).c0
      have h1 := (VB.out.later jb VB.out.lt).c1
      simp only [putL, Act.put, List.setIfInBounds_toArray, List.set_cons_succ, List.set_cons_zero] at h0 h1 ⊢
      go_wp2
      exact ⟨rfl, [x0, x1, x2, _, x4, x5, x6, x7], rfl, (by simp only [putL, Act.put, List.setIfInBounds_toArray, List.set_cons_succ, List.set_cons_zero]), j0, j1, o2, (fun _ => rfl), j4, o5, a6, a7, u2_5, jb⟩
    · simp only [List.getElem?_cons_zero, List.getElem?_cons_succ, Option.some.injEq] at ho
      subst ho
      simp only [putL, Act.put, List.setIfInBounds_toArray, List.set_cons_succ, List.set_cons_zero]
      go_wp2
      exact ⟨rfl, [x0, x1, x2, x3, _, x5, x6, x7], rfl, (by simp only [putL, Act.put, List.setIfInBounds_toArray, List.set_cons_succ, List.set_cons_zero]), j0, j1, o2, j3, (fun _ => rfl), o5, a6, a7, u2_5, jb⟩
    · simp only [List.getElem?_cons_zero, List.getElem?_cons_succ, Option.some.injEq] at ho
      subst ho
      obtain rfl := j3 (List.all_eq_true.1 hw 3 (by decide))
      obtain rfl := j4 (List.all_eq_true.1 hw 4 (by decide))
      simp only [putL, Act.put, List.setIfInBounds_toArray, List.set_cons_succ, List.set_cons_zero]
      go_wp2_with ((with_reducible refine (CB.out _).mono ?_); rintro e w1 hpost; obtain ⟨g, cap, hg, rfl, hcap, hx, hb⟩ := list_x hpost)
      exact ⟨rfl, [x0, x1, x2, _, _, _, x6, x7], rfl, (by simp only [putL, Act.put, List.setIfInBounds_toArray, List.set_cons_succ, List.set_cons_zero]), j0, j1, (o2.later hb), (fun _ => rfl), (fun _ => rfl), (fun _ => ⟨g, cap, rfl, Nat.le_trans jb.size hg, hcap, hx⟩), a6, (fun h => nomatch ((a7 h).1.symm.trans hi)), (fun h _ => o2.ne h hg), jb.trans (hb.mono jb.size)⟩
    · simp only [List.getElem?_cons_zero, List.getElem?_cons_succ, Option.some.injEq] at ho
      subst ho
      have hd : d 2 = true := List.all_eq_true.1 hw 2 (by decide)
      simp only [putL, Act.put, List.setIfInBounds_toArray, List.set_cons_succ, List.set_cons_zero]
      go_wp2
      exact ⟨rfl, [x0, x1, x2, x3, x4, x5, _, x7], rfl, (by simp only [putL, Act.put, List.setIfInBounds_toArray, List.set_cons_succ, List.set_cons_zero]), j0, j1, o2, j3, j4, o5, (fun _ => ⟨hd, rfl⟩), a7, u2_5, jb⟩
    · simp only [List.getElem?_cons_zero, List.getElem?_cons_succ, Option.some.injEq] at ho
      subst ho
      have hd : d 5 = true := List.all_eq_true.1 hw 5 (by decide)
      simp only [putL, Act.put, List.setIfInBounds_toArray, List.set_cons_succ, List.set_cons_zero]
      go_wp2
      exact ⟨rfl, [x0, x1, x2, x3, x4, x5, x6, _], rfl, (by simp only [putL, Act.put, List.setIfInBounds_toArray, List.set_cons_succ, List.set_cons_zero]), j0, j1, o2, j3, j4, o5, a6, (fun _ => ⟨hd, rfl⟩), u2_5, jb⟩

set_option maxHeartbeats 8000000 in
theorem rft_bad (op w c a0 a1 b0 b1 p q : Nat) (fa fb f : Nat → Nat) (hc16 : c ≤ 16) (hc2 : 2 ≤ c)
    (tt : Nat → Bool) (m : Nat) (HT : Hide (∀ i, f i = if tt i then m else 0)) (CM : Hide (∀ W : World, Calls Tryd.prog 41 #[.int .i64 (w : Int)] W fun e W' => e = .returned (.int .u64 (m : Int)) ∧ W' = W))
    (CW : Hide (∀ W : World, Calls Tryd.prog 29 #[.int .i64 (w : Int)] W fun e W' => e = .returned (.bool true) ∧ W' = W))
    (CA : Hide (∀ W : World, Calls Tryd.prog 30 #[vecV (a0, a1), .int .i64 (w : Int)] W fun e W' => ListPost W c ((List.range c).map fa) e W'))
    (CB : Hide (∀ W : World, Calls Tryd.prog 30 #[vecV (b0, b1), .int .i64 (w : Int)] W fun e W' => ListPost W c ((List.range c).map fb) e W'))
    (CT : Hide (∀ i, i < c → ∀ W : World, Calls Tryd.prog 40 #[.int .u8 (op : Int), .int .i64 (w : Int), .int .u64 (fa i : Int), .int .u64 (fb i : Int)] W fun e W' => e = .returned (.tuple #[.bool false, .int .i64 2]) ∧ W' = W))
    (CV : Hide (∀ (W : World) (g cap : Nat), XBlk W g c ((List.range c).map f) → Calls Tryd.prog 32 #[.int .i64 (w : Int), .slice (some ⟨g, 0, none⟩) c cap] W fun e W' => e = .returned (vecV (p, q)) ∧ Below W.heap.size W W'))
    (W : World) :
    Calls Tryd.prog 15 #[.int .u8 (op : Int), .int .i64 (w : Int), vecV (a0, a1), vecV (b0, b1)] W fun e W' => e = .returned (vecE ((0, 0), 2)) ∧ Below W.heap.size W W' := by
  obtain ⟨wa, hwa⟩ : ∃ wa, ((W.alloc (.cells #[.int .u64 (a0 : Int), .int .u64 (a1 : Int)] 25)).alloc (.cells #[.int .u64 (b0 : Int), .int .u64 (b1 : Int)] 25)).alloc (.cells #[.int .u64 0, .int .u64 0] 25) = wa := ⟨_, rfl⟩
  have VA : Hide (VBlk wa W.heap.size (a0, a1)) := hide (by rw [← hwa]; exact alloc_past (alloc_past (alloc_at rfl)))
  have VB : Hide (VBlk wa (W.heap.size + 1) (b0, b1)) := hide (by rw [← hwa]; exact alloc_past (alloc_at (by simp)))
  have ZB : Hide (VBlk wa (W.heap.size + 1 + 1) (0, 0)) := hide (by rw [← hwa]; exact alloc_at (by simp))
  have BA : Hide (Below W.heap.size W wa) := hide (by rw [← hwa]; exact (((Below.refl _ _).alloc (Nat.le_refl _) _).alloc (by simp) _).alloc (by simp; omega) _)
  have HWA := hide hwa
  clear hwa
  unfold vecV at CA CB CV ⊢
  simp only at CA CB CV ⊢
  go_enter Tryd.func15, Tryd.ntmps15
  go_wp2_with ((with_reducible refine (CW.out _).mono ?_); rintro e w0 ⟨rfl, rfl⟩)
  rw [HWA.out]
  refine wp_region_par [19, 20, 21, 22, 23, 24, 10, 11] (ListsJ (.agg #[.int .u64 (a0 : Int), .int .u64 (a1 : Int)]) (.agg #[.int .u64 (b0 : Int), .int .u64 (b1 : Int)]) w c ((List.range c).map fa) ((List.range c).map fb) wa) (by kernel_rfl) (by kernel_rfl) ?_ ?_ ?_
  · intro vs
    exact ⟨(fun h => by cases h), (fun h => by cases h), (fun h => by cases h), (fun h => by cases h), (fun h => by cases h), (fun h => by cases h), (fun h => by cases h), (fun h => by cases h), (fun h => by cases h), (Below.refl _ _).drew⟩
  · intro d vs w1 hd hl hJ
    match vs, hl with
    | [x0, x1, x2, x3, x4, x5, x6, x7], _ =>
    obtain ⟨j0, j1, o2, j3, j4, o5, a6, a7, u2_5, jb⟩ := hJ
    obtain rfl := j0 (hd 0 (by decide))
    obtain rfl := j1 (hd 1 (by decide))
    obtain rfl := j3 (hd 3 (by decide))
    obtain rfl := j4 (hd 4 (by decide))
    have e6 := (a6 (hd 6 (by decide))).2
    simp only [List.getElem?_cons_zero, List.getElem?_cons_succ, Option.getD_some] at e6
    subst e6
    have e7 := (a7 (hd 7 (by decide))).2
    simp only [List.getElem?_cons_zero, List.getElem?_cons_succ, Option.getD_some] at e7
    subst e7
    obtain ⟨g1, cap1, e2, hg1, hc1, hx1⟩ := o2 (hd 2 (by decide))
    simp only [List.getElem?_cons_zero, List.getElem?_cons_succ, Option.getD_some] at e2
    subst e2
    obtain ⟨g2, cap2, e5, hg2, hc2, hx2⟩ := o5 (hd 5 (by decide))
    simp only [List.getElem?_cons_zero, List.getElem?_cons_succ, Option.getD_some] at e5
    subst e5
    have hne : g1 ≠ g2 := u2_5 (hd 2 (by decide)) (hd 5 (by decide))
    have JB := hide jb
    have K1 := hide hx1
    have K2 := hide hx2
    clear hd hl jb j0 j1 o2 j3 j4 o5 a6 a7 u2_5 hx1 hx2
    simp only [putL, Act.put, List.setIfInBounds_toArray, List.set_cons_succ, List.set_cons_zero]
    have ZW := hide (ZB.out.later JB.out ZB.out.lt)
    have BW := hide (BA.out.trans (JB.out.mono BA.out.size))
    have S0 : Hide (TwAt W (W.heap.size + 1 + 1) g1 g2 c (mixC c f fa 0) ((List.range c).map fb) w1) := hide ⟨ZW.out, by rw [mix_zero]; exact K1.out, K2.out, BW.out⟩
    have HG : Hide (W.heap.size + 1 + 1 < g1) := hide (by have := ZB.out.lt; omega)
    have HN : Hide (g2 ≠ g1) := hide (Ne.symm hne)
    clear K1 K2 BW JB ZW VA VB ZB BA HWA CA CB hne hg1 hg2 hc1 hc2
    go_wp2_with fail
    go_loopw [12] (fun x wr => ∃ k : Nat, x = .int .i64 (k : Int) ∧ k = 0 ∧ TwAt W (W.heap.size + 1 + 1) g1 g2 c (mixC c f fa k) ((List.range c).map fb) wr) (fun x _ => c - (intOf x).toNat)
    case atStart => exact ⟨0, rfl, rfl, S0.out⟩
    case round =>
      obtain ⟨k, rfl, hk, hr⟩ := hrel
      have H := hide hr
      clear hr S0
      have c00 : k < c := by omega
      clear hk
      by_cases c0 : k < c
      · have c1 : (k : Int) < (c : Int) := by omega
        have c2 : (k : Int) < 16 := by omega
        have hA : wr.cell? ⟨g1, k, none⟩ = some (.int .u64 (fa k : Int)) := by
          have := H.out.2.1.cell k c0
          rwa [mix_at c f fa k k c0, if_neg (by omega)] at this
        have hB : wr.cell? ⟨g2, k, none⟩ = some (.int .u64 (fb k : Int)) := by
          have := H.out.2.2.1.cell k c0
          rwa [show at0 ((List.range c).map fb) k = fb k by simp [at0, List.getElem?_range c0]] at this
        have hz : wr.frozen? ⟨g1, k, none⟩ = false := H.out.2.1.frozen k
        have ST := hide (mix_set c f fa k c0)
        have CK := hide (CT.out k c0)
        have HC := hide c0
        clear CT c0 c00
        generalize fa k = xa at *
        generalize fb k = xb at *
        have H3 := hide fun m => H.out.drewN m
        have z := H.out.1
        have r0 : wr.cell? ⟨W.heap.size + 1 + 1, 0, none⟩ = some (.int .u64 0) := z.c0
        have r1 : wr.cell? ⟨W.heap.size + 1 + 1, 1, none⟩ = some (.int .u64 0) := z.c1
        have z0 : wr.frozen? ⟨W.heap.size + 1 + 1, 0, none⟩ = false := z.frozen 0
        have z1 : wr.frozen? ⟨W.heap.size + 1 + 1, 1, none⟩ = false := z.frozen 1
        clear z
        go_wp2_with fail
        go_quiet (with_reducible refine Calls.quiet_of_same (CK.out _))
        go_wp2
        refine bodyPost_ret (v := vecE ((0, 0), 2)) (((H3.out _).1.set2 0 0).result2 (by rfl) _ rfl rfl) rfl ?_
        exact ⟨rfl, ((H3.out _).2.2.2.setCell (by simp; omega) _).setCell (by simp; omega) _⟩
      · exact absurd c00 c0
  · intro i o ho d vs w hl hJ hi hw
    match vs, hl with
    | [x0, x1, x2, x3, x4, x5, x6, x7], _ =>
    have hin : i < 8 := (List.getElem?_eq_some_iff.1 ho).1
    obtain ⟨j0, j1, o2, j3, j4, o5, a6, a7, u2_5, jb⟩ := hJ
    simp only [List.getElem?_cons_zero, List.getElem?_cons_succ, Option.some.injEq, Option.getD_some] at j0 j1 o2 j3 j4 o5 a6 a7 u2_5
    rcases (show i = 0 ∨ i = 1 ∨ i = 2 ∨ i = 3 ∨ i = 4 ∨ i = 5 ∨ i = 6 ∨ i = 7 by omega) with rfl | rfl | rfl | rfl | rfl | rfl | rfl | rfl
    · simp only [List.getElem?_cons_zero, List.getElem?_cons_succ, Option.some.injEq] at ho
      subst ho
      have h0 := (VA.out.later jb VA.out.lt).c0
      have h1 := (VA.out.later jb VA.out.lt).c1
      simp only [putL, Act.put, List.setIfInBounds_toArray, List.set_cons_succ, List.set_cons_zero] at h0 h1 ⊢
      go_wp2
      exact ⟨rfl, [_, x1, x2, x3, x4, x5, x6, x7], rfl, (by simp only [putL, Act.put, List.setIfInBounds_toArray, List.set_cons_succ, List.set_cons_zero]), (fun _ => rfl), j1, o2, j3, j4, o5, a6, a7, u2_5, jb⟩
    · simp only [List.getElem?_cons_zero, List.getElem?_cons_succ, Option.some.injEq] at ho
      subst ho
      simp only [putL, Act.put, List.setIfInBounds_toArray, List.set_cons_succ, List.set_cons_zero]
      go_wp2
      exact ⟨rfl, [x0, _, x2, x3, x4, x5, x6, x7], rfl, (by simp only [putL, Act.put, List.setIfInBounds_toArray, List.set_cons_succ, List.set_cons_zero]), j0, (fun _ => rfl), o2, j3, j4, o5, a6, a7, u2_5, jb⟩
    · simp only [List.getElem?_cons_zero, List.getElem?_cons_succ, Option.some.injEq] at ho
      subst ho
      obtain rfl := j0 (List.all_eq_true.1 hw 0 (by decide))
      obtain rfl := j1 (List.all_eq_true.1 hw 1 (by decide))
      simp only [putL, Act.put, List.setIfInBounds_toArray, List.set_cons_succ, List.set_cons_zero]
      go_wp2_with ((with_reducible refine (CA.out _).mono ?_); rintro e w1 hpost; obtain ⟨g, cap, hg, rfl, hcap, hx, hb⟩ := list_x hpost)
      exact ⟨rfl, [_, _, _, x3, x4, x5, x6, x7], rfl, (by simp only [putL, Act.put, List.setIfInBounds_toArray, List.set_cons_succ, List.set_cons_zero]), (fun _ => rfl), (fun _ => rfl), (fun _ => ⟨g, cap, rfl, Nat.le_trans jb.size hg, hcap, hx⟩), j3, j4, (o5.later hb), (fun h => nomatch ((a6 h).1.symm.trans hi)), a7, (fun _ h => Ne.symm (o5.ne h hg)), jb.trans (hb.mono jb.size)⟩
    · simp only [List.getElem?_cons_zero, List.getElem?_cons_succ, Option.some.injEq] at ho
      subst ho
      have h0 := (VB.out.later jb VB.out.lt).c0
      have h1 := (VB.out.later jb VB.out.lt).c1
      simp only [putL, Act.put, List.setIfInBounds_toArray, List.set_cons_succ, List.set_cons_zero] at h0 h1 ⊢
      go_wp2
      exact ⟨rfl, [x0, x1, x2, _, x4, x5, x6, x7], rfl, (by simp only [putL, Act.put, List.setIfInBounds_toArray, List.set_cons_succ, List.set_cons_zero]), j0, j1, o2, (fun _ => rfl), j4, o5, a6, a7, u2_5, jb⟩
    · simp only [List.getElem?_cons_zero, List.getElem?_cons_succ, Option.some.injEq] at ho
      subst ho
      simp only [putL, Act.put, List.setIfInBounds_toArray, List.set_cons_succ, List.set_cons_zero]
      go_wp2
      exact ⟨rfl, [x0, x1, x2, x3, _, x5, x6, x7], rfl, (by simp only [putL, Act.put, List.setIfInBounds_toArray, List.set_cons_succ, List.set_cons_zero]), j0, j1, o2, j3, (fun _ => rfl), o5, a6, a7, u2_5, jb⟩
    · simp only [List.getElem?_cons_zero, List.getElem?_cons_succ, Option.some.injEq] at ho
      subst ho
      obtain rfl := j3 (List.all_eq_true.1 hw 3 (by decide))
      obtain rfl := j4 (List.all_eq_true.1 hw 4 (by decide))
      simp only [putL, Act.put, List.setIfInBounds_toArray, List.set_cons_succ, List.set_cons_zero]
      go_wp2_with ((with_reducible refine (CB.out _).mono ?_); rintro e w1 hpost; obtain ⟨g, cap, hg, rfl, hcap, hx, hb⟩ := list_x hpost)
      exact ⟨rfl, [x0, x1, x2, _, _, _, x6, x7], rfl, (by simp only [putL, Act.put, List.setIfInBounds_toArray, List.set_cons_succ, List.set_cons_zero]), j0, j1, (o2.later hb), (fun _ => rfl), (fun _ => rfl), (fun _ => ⟨g, cap, rfl, Nat.le_trans jb.size hg, hcap, hx⟩), a6, (fun h => nomatch ((a7 h).1.symm.trans hi)), (fun h _ => o2.ne h hg), jb.trans (hb.mono jb.size)⟩
    · simp only [List.getElem?_cons_zero, List.getElem?_cons_succ, Option.some.injEq] at ho
      subst ho
      have hd : d 2 = true := List.all_eq_true.1 hw 2 (by decide)
      simp only [putL, Act.put, List.setIfInBounds_toArray, List.set_cons_succ, List.set_cons_zero]
      go_wp2
      exact ⟨rfl, [x0, x1, x2, x3, x4, x5, _, x7], rfl, (by simp only [putL, Act.put, List.setIfInBounds_toArray, List.set_cons_succ, List.set_cons_zero]), j0, j1, o2, j3, j4, o5, (fun _ => ⟨hd, rfl⟩), a7, u2_5, jb⟩
    · simp only [List.getElem?_cons_zero, List.getElem?_cons_succ, Option.some.injEq] at ho
      subst ho
      have hd : d 5 = true := List.all_eq_true.1 hw 5 (by decide)
      simp only [putL, Act.put, List.setIfInBounds_toArray, List.set_cons_succ, List.set_cons_zero]
      go_wp2
      exact ⟨rfl, [x0, x1, x2, x3, x4, x5, x6, _], rfl, (by simp only [putL, Act.put, List.setIfInBounds_toArray, List.set_cons_succ, List.set_cons_zero]), j0, j1, o2, j3, j4, o5, a6, (fun _ => ⟨hd, rfl⟩), u2_5, jb⟩

end Go.Proofs.YtpeckiaimellmaaDoor
/-
  The document's One of lanes of floats; widths that are none.
-/
set_option linter.unusedVariables false
set_option linter.unusedSimpArgs false
namespace Go.Proofs.YtpeckiaimellmaaDoor
open Go.RowKit Lan

set_option maxHeartbeats 8000000 in
theorem rf1_ok (op w c a0 a1 p q : Nat) (fa f : Nat → Nat) (hc16 : c ≤ 16) (hc2 : 2 ≤ c)
    (CW : Hide (∀ W : World, Calls Tryd.prog 29 #[.int .i64 (w : Int)] W fun e W' => e = .returned (.bool true) ∧ W' = W))
    (CA : Hide (∀ W : World, Calls Tryd.prog 30 #[vecV (a0, a1), .int .i64 (w : Int)] W fun e W' => ListPost W c ((List.range c).map fa) e W'))
    (CT : Hide (∀ i, i < c → ∀ W : World, Calls Tryd.prog 37 #[.int .u8 (op : Int), .int .i64 (w : Int), .int .u64 (fa i : Int)] W fun e W' => e = .returned (.tuple #[.int .u64 (f i : Int), .int .i64 0]) ∧ Below W.heap.size W W'))
    (CV : Hide (∀ (W : World) (g cap : Nat), XBlk W g c ((List.range c).map f) → Calls Tryd.prog 32 #[.int .i64 (w : Int), .slice (some ⟨g, 0, none⟩) c cap] W fun e W' => e = .returned (vecV (p, q)) ∧ Below W.heap.size W W'))
    (W : World) :
    Calls Tryd.prog 13 #[.int .u8 (op : Int), .int .i64 (w : Int), vecV (a0, a1)] W fun e W' => e = .returned (vecE ((p, q), 0)) ∧ Below W.heap.size W W' := by
  obtain ⟨wa, hwa⟩ : ∃ wa, (W.alloc (.cells #[.int .u64 (a0 : Int), .int .u64 (a1 : Int)] 25)).alloc (.cells #[.int .u64 0, .int .u64 0] 25) = wa := ⟨_, rfl⟩
  have VA : Hide (VBlk wa W.heap.size (a0, a1)) := hide (by rw [← hwa]; exact alloc_past (alloc_at rfl))
  have ZB : Hide (VBlk wa (W.heap.size + 1) (0, 0)) := hide (by rw [← hwa]; exact alloc_at (by simp))
  have BA : Hide (Below W.heap.size W wa) := hide (by rw [← hwa]; exact ((Below.refl _ _).alloc (Nat.le_refl _) _).alloc (by simp) _)
  have HWA := hide hwa
  clear hwa
  unfold vecV at CA CV ⊢
  simp only at CA CV ⊢
  go_enter Tryd.func13, Tryd.ntmps13
  go_wp2_with ((with_reducible refine (CW.out _).mono ?_); rintro e w0 ⟨rfl, rfl⟩)
  rw [HWA.out]
  refine (CA.out _).mono ?_
  rintro e w1 hpost
  obtain ⟨g1, cap1, hg1, rfl, hcap, hx, hb⟩ := list_x hpost
  have ZW := hide (ZB.out.later hb ZB.out.lt)
  have BW := hide (BA.out.trans (hb.mono BA.out.size))
  have S0 : Hide (OnAt W (W.heap.size + 1) g1 c (mixC c f fa 0) w1) := hide ⟨ZW.out, by rw [mix_zero]; exact hx, BW.out⟩
  have HG : Hide (W.heap.size + 1 < g1) := hide (by have := ZB.out.lt; omega)
  clear hx hb hpost hg1 hcap ZW BW VA ZB BA HWA CA
  go_wp2_with fail
  go_loopw [9] (fun x wr => ∃ k : Nat, x = .int .i64 (k : Int) ∧ k ≤ c ∧ OnAt W (W.heap.size + 1) g1 c (mixC c f fa k) wr) (fun x _ => c - (intOf x).toNat)
  case atStart => exact ⟨0, rfl, by omega, S0.out⟩
  case round =>
    obtain ⟨k, rfl, hk, hr⟩ := hrel
    have H := hide hr
    clear hr S0
    by_cases c0 : k < c
    · have c1 : (k : Int) < (c : Int) := by omega
      have c2 : (k : Int) < 16 := by omega
      have hA : wr.cell? ⟨g1, k, none⟩ = some (.int .u64 (fa k : Int)) := by
        have := H.out.2.1.cell k c0
        rwa [mix_at c f fa k k c0, if_neg (by omega)] at this
      have ST := hide (mix_set c f fa k c0)
      have CK := hide (CT.out k c0)
      have HC := hide c0
      clear CT c0
      generalize fa k = xa at *
      generalize f k = y at *
      go_wp2_with fail
      refine (CK.out _).mono ?_
      rintro e w0 ⟨rfl, hb⟩
      have H3 := hide (H.out.later hb)
      have hc : w0.cell? ⟨g1, k, none⟩ = some (.int .u64 (xa : Int)) := cell_later hb hA (Nat.le_refl _)
      have hz : w0.frozen? ⟨g1, k, none⟩ = false := H3.out.2.1.frozen k
      clear hb hA H
      go_wp2
      go_roundw
      case rel => exact ⟨k + 1, by go_num, HC.out, by rw [← ST.out]; exact H3.out.put (mix_length c f fa k) k y HC.out (by have := HG.out; omega) (by have := HG.out; omega)⟩
      case measure => have := HC.out; simp [intOf]; omega
    · obtain rfl : k = c := by omega
      rw [mix_all] at H
      have CK := hide (fun cap => CV.out wr g1 cap H.out.2.1)
      clear CT CV c0
      go_wp2_with fail
      refine (CK.out _).mono ?_
      rintro e w2 ⟨rfl, hb⟩
      have H2 := hide (H.out.later hb)
      have z := H2.out.1
      have r0 : w2.cell? ⟨W.heap.size + 1, 0, none⟩ = some (.int .u64 0) := z.c0
      have r1 : w2.cell? ⟨W.heap.size + 1, 1, none⟩ = some (.int .u64 0) := z.c1
      have z0 : w2.frozen? ⟨W.heap.size + 1, 0, none⟩ = false := z.frozen 0
      have z1 : w2.frozen? ⟨W.heap.size + 1, 1, none⟩ = false := z.frozen 1
      clear z
      clear hb H
      go_wp2
      refine bodyPost_ret (v := vecE ((p, q), 0)) ((H2.out.1.set2 p q).result2 (by rfl) _ rfl rfl) rfl ?_
      exact ⟨rfl, (H2.out.2.2.setCell (by simp) _).setCell (by simp) _⟩

set_option maxHeartbeats 8000000 in
theorem rf1_bad (op w c a0 a1 p q : Nat) (fa f : Nat → Nat) (hc16 : c ≤ 16) (hc2 : 2 ≤ c)
    (CW : Hide (∀ W : World, Calls Tryd.prog 29 #[.int .i64 (w : Int)] W fun e W' => e = .returned (.bool true) ∧ W' = W))
    (CA : Hide (∀ W : World, Calls Tryd.prog 30 #[vecV (a0, a1), .int .i64 (w : Int)] W fun e W' => ListPost W c ((List.range c).map fa) e W'))
    (CT : Hide (∀ i, i < c → ∀ W : World, Calls Tryd.prog 37 #[.int .u8 (op : Int), .int .i64 (w : Int), .int .u64 (fa i : Int)] W fun e W' => e = .returned (.tuple #[.int .u64 0, .int .i64 2]) ∧ Below W.heap.size W W'))
    (CV : Hide (∀ (W : World) (g cap : Nat), XBlk W g c ((List.range c).map f) → Calls Tryd.prog 32 #[.int .i64 (w : Int), .slice (some ⟨g, 0, none⟩) c cap] W fun e W' => e = .returned (vecV (p, q)) ∧ Below W.heap.size W W'))
    (W : World) :
    Calls Tryd.prog 13 #[.int .u8 (op : Int), .int .i64 (w : Int), vecV (a0, a1)] W fun e W' => e = .returned (vecE ((0, 0), 2)) ∧ Below W.heap.size W W' := by
  obtain ⟨wa, hwa⟩ : ∃ wa, (W.alloc (.cells #[.int .u64 (a0 : Int), .int .u64 (a1 : Int)] 25)).alloc (.cells #[.int .u64 0, .int .u64 0] 25) = wa := ⟨_, rfl⟩
  have VA : Hide (VBlk wa W.heap.size (a0, a1)) := hide (by rw [← hwa]; exact alloc_past (alloc_at rfl))
  have ZB : Hide (VBlk wa (W.heap.size + 1) (0, 0)) := hide (by rw [← hwa]; exact alloc_at (by simp))
  have BA : Hide (Below W.heap.size W wa) := hide (by rw [← hwa]; exact ((Below.refl _ _).alloc (Nat.le_refl _) _).alloc (by simp) _)
  have HWA := hide hwa
  clear hwa
  unfold vecV at CA CV ⊢
  simp only at CA CV ⊢
  go_enter Tryd.func13, Tryd.ntmps13
  go_wp2_with ((with_reducible refine (CW.out _).mono ?_); rintro e w0 ⟨rfl, rfl⟩)
  rw [HWA.out]
  refine (CA.out _).mono ?_
  rintro e w1 hpost
  obtain ⟨g1, cap1, hg1, rfl, hcap, hx, hb⟩ := list_x hpost
  have ZW := hide (ZB.out.later hb ZB.out.lt)
  have BW := hide (BA.out.trans (hb.mono BA.out.size))
  have S0 : Hide (OnAt W (W.heap.size + 1) g1 c (mixC c f fa 0) w1) := hide ⟨ZW.out, by rw [mix_zero]; exact hx, BW.out⟩
  have HG : Hide (W.heap.size + 1 < g1) := hide (by have := ZB.out.lt; omega)
  clear hx hb hpost hg1 hcap ZW BW VA ZB BA HWA CA
  go_wp2_with fail
  go_loopw [9] (fun x wr => ∃ k : Nat, x = .int .i64 (k : Int) ∧ k = 0 ∧ OnAt W (W.heap.size + 1) g1 c (mixC c f fa k) wr) (fun x _ => c - (intOf x).toNat)
  case atStart => exact ⟨0, rfl, rfl, S0.out⟩
  case round =>
    obtain ⟨k, rfl, hk, hr⟩ := hrel
    have H := hide hr
    clear hr S0
    have c00 : k < c := by omega
    clear hk
    by_cases c0 : k < c
    · have c1 : (k : Int) < (c : Int) := by omega
      have c2 : (k : Int) < 16 := by omega
      have hA : wr.cell? ⟨g1, k, none⟩ = some (.int .u64 (fa k : Int)) := by
        have := H.out.2.1.cell k c0
        rwa [mix_at c f fa k k c0, if_neg (by omega)] at this
      have ST := hide (mix_set c f fa k c0)
      have CK := hide (CT.out k c0)
      have HC := hide c0
      clear CT c0 c00
      generalize fa k = xa at *
      go_wp2_with fail
      refine (CK.out _).mono ?_
      rintro e w0 ⟨rfl, hb⟩
      have H3 := hide (H.out.later hb)
      have z := H3.out.1
      have r0 : w0.cell? ⟨W.heap.size + 1, 0, none⟩ = some (.int .u64 0) := z.c0
      have r1 : w0.cell? ⟨W.heap.size + 1, 1, none⟩ = some (.int .u64 0) := z.c1
      have z0 : w0.frozen? ⟨W.heap.size + 1, 0, none⟩ = false := z.frozen 0
      have z1 : w0.frozen? ⟨W.heap.size + 1, 1, none⟩ = false := z.frozen 1
      clear z
      clear hb hA H
      go_wp2
      refine bodyPost_ret (v := vecE ((0, 0), 2)) ((H3.out.1.set2 0 0).result2 (by rfl) _ rfl rfl) rfl ?_
      exact ⟨rfl, (H3.out.2.2.setCell (by simp) _).setCell (by simp) _⟩
    · exact absurd c00 c0

set_option maxHeartbeats 2000000 in
theorem rf1_nowidth (op : Int) (a : Nat × Nat) (w : Int) (CW : Hide (∀ W : World, Calls Tryd.prog 29 #[.int .i64 w] W fun e W' => e = .returned (.bool false) ∧ W' = W)) (W : World) :
    Calls Tryd.prog 13 #[.int .u8 op, .int .i64 w, vecV a] W fun e W' => e = .returned (vecE ((0, 0), 2)) ∧ Below W.heap.size W W' := by
  unfold vecV
  go_enter Tryd.func13, Tryd.ntmps13
  go_wp2_with ((with_reducible refine (CW.out _).mono ?_); rintro e w0 ⟨rfl, rfl⟩)
  refine bodyPost_ret (v := vecE ((0, 0), 2)) (VBlk.result2 (v := (0, 0)) (alloc_at (g := W.heap.size + 1) (by simp)) (by rfl) _ rfl rfl) rfl ?_
  exact ⟨rfl, ((Below.refl _ _).alloc (Nat.le_refl _) _).alloc (by simp) _⟩

set_option maxHeartbeats 2000000 in
theorem rf2_nowidth (op : Int) (a b : Nat × Nat) (w : Int) (CW : Hide (∀ W : World, Calls Tryd.prog 29 #[.int .i64 w] W fun e W' => e = .returned (.bool false) ∧ W' = W)) (W : World) :
    Calls Tryd.prog 10 #[.int .u8 op, .int .i64 w, vecV a, vecV b] W fun e W' => e = .returned (vecE ((0, 0), 2)) ∧ Below W.heap.size W W' := by
  unfold vecV
  go_enter Tryd.func10, Tryd.ntmps10
  go_wp2_with ((with_reducible refine (CW.out _).mono ?_); rintro e w0 ⟨rfl, rfl⟩)
  refine bodyPost_ret (v := vecE ((0, 0), 2)) (VBlk.result2 (v := (0, 0)) (alloc_at (g := W.heap.size + 1 + 1) (by simp)) (by rfl) _ rfl rfl) rfl ?_
  exact ⟨rfl, (((Below.refl _ _).alloc (Nat.le_refl _) _).alloc (by simp) _).alloc (by simp; omega) _⟩

set_option maxHeartbeats 2000000 in
theorem rft_nowidth (op : Int) (a b : Nat × Nat) (w : Int) (CW : Hide (∀ W : World, Calls Tryd.prog 29 #[.int .i64 w] W fun e W' => e = .returned (.bool false) ∧ W' = W)) (W : World) :
    Calls Tryd.prog 15 #[.int .u8 op, .int .i64 w, vecV a, vecV b] W fun e W' => e = .returned (vecE ((0, 0), 2)) ∧ Below W.heap.size W W' := by
  unfold vecV
  go_enter Tryd.func15, Tryd.ntmps15
  go_wp2_with ((with_reducible refine (CW.out _).mono ?_); rintro e w0 ⟨rfl, rfl⟩)
  refine bodyPost_ret (v := vecE ((0, 0), 2)) (VBlk.result2 (v := (0, 0)) (alloc_at (g := W.heap.size + 1 + 1) (by simp)) (by rfl) _ rfl rfl) rfl ?_
  exact ⟨rfl, (((Below.refl _ _).alloc (Nat.le_refl _) _).alloc (by simp) _).alloc (by simp; omega) _⟩

set_option maxHeartbeats 2000000 in
theorem rfh_nowidth (s : Bool) (a : Nat × Nat) (w : Int) (CW : Hide (∀ W : World, Calls Tryd.prog 29 #[.int .i64 w] W fun e W' => e = .returned (.bool false) ∧ W' = W)) (W : World) :
    Calls Tryd.prog 17 #[.int .i64 w, .bool s, vecV a] W fun e W' => e = .returned (vecE ((0, 0), 2)) ∧ Below W.heap.size W W' := by
  unfold vecV
  go_enter Tryd.func17, Tryd.ntmps17
  go_wp2_with ((with_reducible refine (CW.out _).mono ?_); rintro e w0 ⟨rfl, rfl⟩)
  refine bodyPost_ret (v := vecE ((0, 0), 2)) (VBlk.result2 (v := (0, 0)) (alloc_at (g := W.heap.size + 1) (by simp)) (by rfl) _ rfl rfl) rfl ?_
  exact ⟨rfl, ((Below.refl _ _).alloc (Nat.le_refl _) _).alloc (by simp) _⟩

set_option maxHeartbeats 2000000 in
theorem rff_nowidth (s : Bool) (a : Nat × Nat) (w : Int) (CW : Hide (∀ W : World, Calls Tryd.prog 29 #[.int .i64 w] W fun e W' => e = .returned (.bool false) ∧ W' = W)) (W : World) :
    Calls Tryd.prog 19 #[.int .i64 w, .bool s, vecV a] W fun e W' => e = .returned (vecE ((0, 0), 2)) ∧ Below W.heap.size W W' := by
  unfold vecV
  go_enter Tryd.func19, Tryd.ntmps19
  go_wp2_with ((with_reducible refine (CW.out _).mono ?_); rintro e w0 ⟨rfl, rfl⟩)
  refine bodyPost_ret (v := vecE ((0, 0), 2)) (VBlk.result2 (v := (0, 0)) (alloc_at (g := W.heap.size + 1) (by simp)) (by rfl) _ rfl rfl) rfl ?_
  exact ⟨rfl, ((Below.refl _ _).alloc (Nat.le_refl _) _).alloc (by simp) _⟩

end Go.Proofs.YtpeckiaimellmaaDoor
/-
  The document's CutHeld, Float of lanes.
-/
set_option linter.unusedVariables false
set_option linter.unusedSimpArgs false
namespace Go.Proofs.YtpeckiaimellmaaDoor
open Go.RowKit Lan

/-- The result's block, the row that is filled, the row that is read. -/
def HeldAt (W : World) (gr g g1 c : Nat) (A LA : List Nat) (wr : World) : Prop := VBlk wr gr (0, 0) ∧ XBlk wr g 4 A ∧ XBlk wr g1 c LA ∧ Below W.heap.size W wr
theorem HeldAt.later {W : World} {gr g g1 c : Nat} {A LA : List Nat} {w w' : World} (h : HeldAt W gr g g1 c A LA w) (hb : Below w.heap.size w w') : HeldAt W gr g g1 c A LA w' :=
  ⟨h.1.later hb h.1.lt, h.2.1.later hb h.2.1.lt, h.2.2.1.later hb h.2.2.1.lt, h.2.2.2.trans (hb.mono h.2.2.2.size)⟩
theorem HeldAt.put {W : World} {gr g g1 c : Nat} {A LA : List Nat} {w : World} (h : HeldAt W gr g g1 c A LA w) (hl : A.length = 4) (k n : Nat) (hk : k < 4) (hr : gr ≠ g) (h2 : g1 ≠ g) (hW : W.heap.size ≤ g) :
    HeldAt W gr g g1 c (A.set k n) LA (w.setCell ⟨g, k, none⟩ (.int .u64 (n : Int))) :=
  ⟨h.1.other hr _ _, h.2.1.set hl k n hk, h.2.2.1.other h2 _ _, h.2.2.2.setCell hW _⟩

set_option maxHeartbeats 8000000 in
theorem rfh_32 (s : Bool) (a0 a1 p q : Nat) (fa f : Nat → Nat)
    (CW : Hide (∀ W : World, Calls Tryd.prog 29 #[.int .i64 32] W fun e W' => e = .returned (.bool true) ∧ W' = W))
    (CA : Hide (∀ W : World, Calls Tryd.prog 30 #[vecV (a0, a1), .int .i64 32] W fun e W' => ListPost W 4 ((List.range 4).map fa) e W'))
    (CT : Hide (∀ i, i < 4 → ∀ W : World, Calls Tryd.prog 44 #[.int .i64 32, .int .i64 32, .bool s, .int .u64 (fa i : Int)] W fun e W' => e = .returned (.tuple #[.int .u64 (f i : Int), .int .i64 0]) ∧ Below W.heap.size W W'))
    (CV : Hide (∀ (W : World) (g cap : Nat), XBlk W g 4 (mixC 4 f (fun _ => 0) 4) → Calls Tryd.prog 32 #[.int .i64 32, .slice (some ⟨g, 0, none⟩) 4 cap] W fun e W' => e = .returned (vecV (p, q)) ∧ Below W.heap.size W W'))
    (W : World) :
    Calls Tryd.prog 17 #[.int .i64 32, .bool s, vecV (a0, a1)] W fun e W' => e = .returned (vecE ((p, q), 0)) ∧ Below W.heap.size W W' := by
  obtain ⟨wa, hwa⟩ : ∃ wa, (W.alloc (.cells #[.int .u64 (a0 : Int), .int .u64 (a1 : Int)] 25)).alloc (.cells #[.int .u64 0, .int .u64 0] 25) = wa := ⟨_, rfl⟩
  have ZB : Hide (VBlk wa (W.heap.size + 1) (0, 0)) := hide (by rw [← hwa]; exact alloc_at (by simp))
  have BA : Hide (Below W.heap.size W wa) := hide (by rw [← hwa]; exact ((Below.refl _ _).alloc (Nat.le_refl _) _).alloc (by simp) _)
  have HWA := hide hwa
  clear hwa
  unfold vecV at CA CV ⊢
  simp only at CA CV ⊢
  go_enter Tryd.func17, Tryd.ntmps17
  go_wp2_with ((with_reducible refine (CW.out _).mono ?_); rintro e w0 ⟨rfl, rfl⟩)
  rw [HWA.out]
  refine (CA.out _).mono ?_
  rintro e w1 hpost
  obtain ⟨g1, cap1, hg1, rfl, hcap, hx, hb⟩ := list_x hpost
  have ZW := hide (ZB.out.later hb ZB.out.lt)
  have BW := hide (BA.out.trans (hb.mono BA.out.size))
  have KX := hide hx
  clear hx hb hpost hg1 hcap ZB BA HWA CA
  obtain ⟨wb, hwb⟩ : ∃ wb, w1.alloc (.cells #[.int .u64 0, .int .u64 0, .int .u64 0, .int .u64 0] 23) = wb := ⟨_, rfl⟩
  have B0 : Below w1.heap.size w1 wb := by rw [← hwb]; exact (Below.refl _ _).alloc (Nat.le_refl _) _
  have S0 : Hide (HeldAt W (W.heap.size + 1) w1.heap.size g1 4 (mixC 4 f (fun _ => 0) 0) ((List.range 4).map fa) wb) := hide ⟨ZW.out.later B0 ZW.out.lt, by rw [mix_zero, ← hwb]; exact ⟨_, alloc_at rfl, fun i hi => by rcases (show i = 0 ∨ i = 1 ∨ i = 2 ∨ i = 3 by omega) with rfl | rfl | rfl | rfl <;> rfl⟩, KX.out.later B0 KX.out.lt, BW.out.trans (B0.mono BW.out.size)⟩
  have HG : Hide (W.heap.size + 1 < w1.heap.size) := hide ZW.out.lt
  have HN : Hide (g1 < w1.heap.size) := hide KX.out.lt
  have HWB := hide hwb
  clear B0 hwb ZW BW KX
  go_wp2_with fail
  rw [HWB.out]
  clear HWB
  go_loopw [10] (fun x wr => ∃ k : Nat, x = .int .i64 (k : Int) ∧ k ≤ 4 ∧ HeldAt W (W.heap.size + 1) w1.heap.size g1 4 (mixC 4 f (fun _ => 0) k) ((List.range 4).map fa) wr) (fun x _ => 4 - (intOf x).toNat)
  case atStart => exact ⟨0, rfl, by omega, S0.out⟩
  case round =>
    obtain ⟨k, rfl, hk, hr⟩ := hrel
    have H := hide hr
    clear hr S0
    by_cases c0 : k < 4
    · have c1 : (k : Int) < 4 := by omega
      have c4 : (k : Int) < 4 := by omega
      have hA : wr.cell? ⟨g1, k, none⟩ = some (.int .u64 (fa k : Int)) := by
        have := H.out.2.2.1.cell k c0
        rwa [show at0 ((List.range 4).map fa) k = fa k by simp [at0, List.getElem?_range c0]] at this
      have hO : wr.cell? ⟨w1.heap.size, k, none⟩ = some (.int .u64 0) := by
        have := H.out.2.1.cell k (by omega)
        rwa [mix_at 4 f (fun _ => 0) k k (by omega), if_neg (by omega)] at this
      have ST := hide (mix_set 4 f (fun _ => 0) k (by omega))
      have CK := hide (CT.out k c0)
      have HC := hide c0
      clear CT c0
      generalize fa k = xa at *
      generalize f k = y at *
      go_wp2_with fail
      refine (CK.out _).mono ?_
      rintro e w0 ⟨rfl, hb⟩
      have H3 := hide (H.out.later hb)
      have hc : w0.cell? ⟨w1.heap.size, k, none⟩ = some (.int .u64 0) := cell_later hb hO (Nat.le_refl _)
      have hz : w0.frozen? ⟨w1.heap.size, k, none⟩ = false := H3.out.2.1.frozen k
      clear hb hA hO H
      go_wp2
      go_roundw
      case rel => exact ⟨k + 1, by go_num, HC.out, by rw [← ST.out]; exact H3.out.put (mix_length 4 f _ k) k y (by have := HC.out; omega) (by have := HG.out; omega) (by have := HN.out; omega) (by have := HG.out; omega)⟩
      case measure => have := HC.out; simp [intOf]; omega
    · obtain rfl : k = 4 := by omega
      have CK := hide (CV.out wr w1.heap.size 4 H.out.2.1)
      clear CT CV c0
      go_wp2_with fail
      refine CK.out.mono ?_
      rintro e w2 ⟨rfl, hb⟩
      have H2 := hide (H.out.later hb)
      have z := H2.out.1
      have r0 : w2.cell? ⟨W.heap.size + 1, 0, none⟩ = some (.int .u64 0) := z.c0
      have r1 : w2.cell? ⟨W.heap.size + 1, 1, none⟩ = some (.int .u64 0) := z.c1
      have z0 : w2.frozen? ⟨W.heap.size + 1, 0, none⟩ = false := z.frozen 0
      have z1 : w2.frozen? ⟨W.heap.size + 1, 1, none⟩ = false := z.frozen 1
      clear z
      clear hb H
      go_wp2
      refine bodyPost_ret (v := vecE ((p, q), 0)) ((H2.out.1.set2 p q).result2 (by rfl) _ rfl rfl) rfl ?_
      exact ⟨rfl, (H2.out.2.2.2.setCell (by simp) _).setCell (by simp) _⟩

set_option maxHeartbeats 8000000 in
theorem rfh_64 (s : Bool) (a0 a1 p q : Nat) (fa f : Nat → Nat)
    (CW : Hide (∀ W : World, Calls Tryd.prog 29 #[.int .i64 64] W fun e W' => e = .returned (.bool true) ∧ W' = W))
    (CA : Hide (∀ W : World, Calls Tryd.prog 30 #[vecV (a0, a1), .int .i64 64] W fun e W' => ListPost W 2 ((List.range 2).map fa) e W'))
    (CT : Hide (∀ i, i < 2 → ∀ W : World, Calls Tryd.prog 44 #[.int .i64 64, .int .i64 32, .bool s, .int .u64 (fa i : Int)] W fun e W' => e = .returned (.tuple #[.int .u64 (f i : Int), .int .i64 0]) ∧ Below W.heap.size W W'))
    (CV : Hide (∀ (W : World) (g cap : Nat), XBlk W g 4 (mixC 4 f (fun _ => 0) 2) → Calls Tryd.prog 32 #[.int .i64 32, .slice (some ⟨g, 0, none⟩) 4 cap] W fun e W' => e = .returned (vecV (p, q)) ∧ Below W.heap.size W W'))
    (W : World) :
    Calls Tryd.prog 17 #[.int .i64 64, .bool s, vecV (a0, a1)] W fun e W' => e = .returned (vecE ((p, q), 0)) ∧ Below W.heap.size W W' := by
  obtain ⟨wa, hwa⟩ : ∃ wa, (W.alloc (.cells #[.int .u64 (a0 : Int), .int .u64 (a1 : Int)] 25)).alloc (.cells #[.int .u64 0, .int .u64 0] 25) = wa := ⟨_, rfl⟩
  have ZB : Hide (VBlk wa (W.heap.size + 1) (0, 0)) := hide (by rw [← hwa]; exact alloc_at (by simp))
  have BA : Hide (Below W.heap.size W wa) := hide (by rw [← hwa]; exact ((Below.refl _ _).alloc (Nat.le_refl _) _).alloc (by simp) _)
  have HWA := hide hwa
  clear hwa
  unfold vecV at CA CV ⊢
  simp only at CA CV ⊢
  go_enter Tryd.func17, Tryd.ntmps17
  go_wp2_with ((with_reducible refine (CW.out _).mono ?_); rintro e w0 ⟨rfl, rfl⟩)
  rw [HWA.out]
  refine (CA.out _).mono ?_
  rintro e w1 hpost
  obtain ⟨g1, cap1, hg1, rfl, hcap, hx, hb⟩ := list_x hpost
  have ZW := hide (ZB.out.later hb ZB.out.lt)
  have BW := hide (BA.out.trans (hb.mono BA.out.size))
  have KX := hide hx
  clear hx hb hpost hg1 hcap ZB BA HWA CA
  obtain ⟨wb, hwb⟩ : ∃ wb, w1.alloc (.cells #[.int .u64 0, .int .u64 0, .int .u64 0, .int .u64 0] 23) = wb := ⟨_, rfl⟩
  have B0 : Below w1.heap.size w1 wb := by rw [← hwb]; exact (Below.refl _ _).alloc (Nat.le_refl _) _
  have S0 : Hide (HeldAt W (W.heap.size + 1) w1.heap.size g1 2 (mixC 4 f (fun _ => 0) 0) ((List.range 2).map fa) wb) := hide ⟨ZW.out.later B0 ZW.out.lt, by rw [mix_zero, ← hwb]; exact ⟨_, alloc_at rfl, fun i hi => by rcases (show i = 0 ∨ i = 1 ∨ i = 2 ∨ i = 3 by omega) with rfl | rfl | rfl | rfl <;> rfl⟩, KX.out.later B0 KX.out.lt, BW.out.trans (B0.mono BW.out.size)⟩
  have HG : Hide (W.heap.size + 1 < w1.heap.size) := hide ZW.out.lt
  have HN : Hide (g1 < w1.heap.size) := hide KX.out.lt
  have HWB := hide hwb
  clear B0 hwb ZW BW KX
  go_wp2_with fail
  rw [HWB.out]
  clear HWB
  go_loopw [10] (fun x wr => ∃ k : Nat, x = .int .i64 (k : Int) ∧ k ≤ 2 ∧ HeldAt W (W.heap.size + 1) w1.heap.size g1 2 (mixC 4 f (fun _ => 0) k) ((List.range 2).map fa) wr) (fun x _ => 2 - (intOf x).toNat)
  case atStart => exact ⟨0, rfl, by omega, S0.out⟩
  case round =>
    obtain ⟨k, rfl, hk, hr⟩ := hrel
    have H := hide hr
    clear hr S0
    by_cases c0 : k < 2
    · have c1 : (k : Int) < 2 := by omega
      have c4 : (k : Int) < 4 := by omega
      have hA : wr.cell? ⟨g1, k, none⟩ = some (.int .u64 (fa k : Int)) := by
        have := H.out.2.2.1.cell k c0
        rwa [show at0 ((List.range 2).map fa) k = fa k by simp [at0, List.getElem?_range c0]] at this
      have hO : wr.cell? ⟨w1.heap.size, k, none⟩ = some (.int .u64 0) := by
        have := H.out.2.1.cell k (by omega)
        rwa [mix_at 4 f (fun _ => 0) k k (by omega), if_neg (by omega)] at this
      have ST := hide (mix_set 4 f (fun _ => 0) k (by omega))
      have CK := hide (CT.out k c0)
      have HC := hide c0
      clear CT c0
      generalize fa k = xa at *
      generalize f k = y at *
      go_wp2_with fail
      refine (CK.out _).mono ?_
      rintro e w0 ⟨rfl, hb⟩
      have H3 := hide (H.out.later hb)
      have hc : w0.cell? ⟨w1.heap.size, k, none⟩ = some (.int .u64 0) := cell_later hb hO (Nat.le_refl _)
      have hz : w0.frozen? ⟨w1.heap.size, k, none⟩ = false := H3.out.2.1.frozen k
      clear hb hA hO H
      go_wp2
      go_roundw
      case rel => exact ⟨k + 1, by go_num, HC.out, by rw [← ST.out]; exact H3.out.put (mix_length 4 f _ k) k y (by have := HC.out; omega) (by have := HG.out; omega) (by have := HN.out; omega) (by have := HG.out; omega)⟩
      case measure => have := HC.out; simp [intOf]; omega
    · obtain rfl : k = 2 := by omega
      have CK := hide (CV.out wr w1.heap.size 4 H.out.2.1)
      clear CT CV c0
      go_wp2_with fail
      refine CK.out.mono ?_
      rintro e w2 ⟨rfl, hb⟩
      have H2 := hide (H.out.later hb)
      have z := H2.out.1
      have r0 : w2.cell? ⟨W.heap.size + 1, 0, none⟩ = some (.int .u64 0) := z.c0
      have r1 : w2.cell? ⟨W.heap.size + 1, 1, none⟩ = some (.int .u64 0) := z.c1
      have z0 : w2.frozen? ⟨W.heap.size + 1, 0, none⟩ = false := z.frozen 0
      have z1 : w2.frozen? ⟨W.heap.size + 1, 1, none⟩ = false := z.frozen 1
      clear z
      clear hb H
      go_wp2
      refine bodyPost_ret (v := vecE ((p, q), 0)) ((H2.out.1.set2 p q).result2 (by rfl) _ rfl rfl) rfl ?_
      exact ⟨rfl, (H2.out.2.2.2.setCell (by simp) _).setCell (by simp) _⟩

set_option maxHeartbeats 8000000 in
theorem rff_32 (s : Bool) (a0 a1 p q : Nat) (fa f : Nat → Nat)
    (CW : Hide (∀ W : World, Calls Tryd.prog 29 #[.int .i64 32] W fun e W' => e = .returned (.bool true) ∧ W' = W))
    (CA : Hide (∀ W : World, Calls Tryd.prog 30 #[vecV (a0, a1), .int .i64 32] W fun e W' => ListPost W 4 ((List.range 4).map fa) e W'))
    (CT : Hide (∀ i, i < 4 → ∀ W : World, Calls Tryd.prog 46 #[.int .i64 32, .int .i64 32, .bool s, .int .u64 (fa i : Int)] W fun e W' => e = .returned (.tuple #[.int .u64 (f i : Int), .int .i64 0]) ∧ Below W.heap.size W W'))
    (CV : Hide (∀ (W : World) (g cap : Nat), XBlk W g 4 ((List.range 4).map f) → Calls Tryd.prog 32 #[.int .i64 32, .slice (some ⟨g, 0, none⟩) 4 cap] W fun e W' => e = .returned (vecV (p, q)) ∧ Below W.heap.size W W'))
    (W : World) :
    Calls Tryd.prog 19 #[.int .i64 32, .bool s, vecV (a0, a1)] W fun e W' => e = .returned (vecE ((p, q), 0)) ∧ Below W.heap.size W W' := by
  obtain ⟨i0, hi, hz0, hz1, hz2⟩ := info_parts infoW
  obtain ⟨wa, hwa⟩ : ∃ wa, (W.alloc (.cells #[.int .u64 (a0 : Int), .int .u64 (a1 : Int)] 25)).alloc (.cells #[.int .u64 0, .int .u64 0] 25) = wa := ⟨_, rfl⟩
  have ZB : Hide (VBlk wa (W.heap.size + 1) (0, 0)) := hide (by rw [← hwa]; exact alloc_at (by simp))
  have BA : Hide (Below W.heap.size W wa) := hide (by rw [← hwa]; exact ((Below.refl _ _).alloc (Nat.le_refl _) _).alloc (by simp) _)
  have HWA := hide hwa
  clear hwa
  unfold vecV at CA CV ⊢
  simp only at CA CV ⊢
  go_enter Tryd.func19, Tryd.ntmps19
  go_wp2_with ((with_reducible refine (CW.out _).mono ?_); rintro e w0 ⟨rfl, rfl⟩)
  rw [HWA.out]
  refine (CA.out _).mono ?_
  rintro e w1 hpost
  obtain ⟨g1, cap1, hg1, rfl, hcap, hx, hb⟩ := list_x hpost
  have ZW := hide (ZB.out.later hb ZB.out.lt)
  have BW := hide (BA.out.trans (hb.mono BA.out.size))
  have KX := hide hx
  clear hx hb hpost hg1 hcap ZB BA HWA CA
  go_wp2_with fail
  go_loopw [9, 10] (fun v x wr => ∃ k : Nat, x = .int .i64 (k : Int) ∧ k ≤ 4 ∧ OwnW wr w1.heap.size v (pre f k) ∧ Below w1.heap.size w1 wr) (fun _ x _ => 4 - (intOf x).toNat)
  case atStart => exact ⟨0, rfl, by omega, World.ownsRow_nil _ _ _ _, Below.refl _ _⟩
  case round =>
    obtain ⟨k, rfl, hk, hown0, hbel⟩ := hrel
    have HBEL := hide hbel
    have HOWN := hide hown0
    clear hown0 hbel
    by_cases c0 : k < 4
    · have c1 : (k : Int) < 4 := by omega
      have c4 : (k : Int) < 4 := by omega
      have hA : wr.cell? ⟨g1, k, none⟩ = some (.int .u64 (fa k : Int)) := by
        have := (KX.out.later HBEL.out KX.out.lt).cell k (by omega)
        rwa [show at0 ((List.range 4).map fa) k = fa k by simp [at0, List.getElem?_range (show k < 4 by omega)]] at this
      have PS := hide (pre_succ f k)
      have CK := hide (CT.out k c0)
      have HC := hide c0
      clear CT c0 hk
      generalize fa k = xa at *
      obtain ⟨y, hy⟩ : ∃ y, f k = y := ⟨_, rfl⟩
      rw [hy] at CK PS
      clear hy
      go_wp2_with fail
      refine (CK.out _).mono ?_
      rintro e w2 ⟨rfl, hb⟩
      have HB2 := hide (HBEL.out.trans (hb.mono HBEL.out.size))
      have HO2 := hide (HOWN.out.later hb)
      obtain ⟨va, vc, hva⟩ := own_shape HO2.out
      rw [pre_length] at hva
      have hown := HO2.out
      rw [hva] at hown ⊢
      unfold OwnW at hown
      rw [pre_length] at hown
      have C3 : Hid (k + 1 ≤ maxLen) := by show k + 1 ≤ maxLen; have := HC.out; unfold maxLen; omega
      have C4 : Hid ((k + 1) * 8 ≤ 140737488355328) := by show (k + 1) * 8 ≤ 140737488355328; have := HC.out; omega
      have C5 : Hid (∀ o : Obj, w1.heap.size ≤ (w2.alloc o).heap.size) := by intro o; have := HB2.out.size; simp; omega
      clear hva hb hA HBEL HOWN HO2
      go_wp2_with (at_builtin; refine wpList_append_own _ rfl _ _ 45 rfl w1.heap.size 23 i0 (.int .u64 0) 1 8 Tryd.underlying45 hi hz0 hz1 hz2 rfl (by decide) _ _ _ rfl (hown.alloc _) ⟨w2.heap.size, 0, none⟩ 1 1 [.int .u64 (y : Int)] rfl rfl (cell_one_new _ _ _) (one_cell64 _) C3.out C4.out (C5.out _) ?_)
      intro v' w3 hown' hgrow _
      have hown2 : OwnW w3 w1.heap.size v' (pre f (k + 1)) := by
        unfold OwnW
        rw [PS.out]; simpa [pre_length] using hown'
      have hbel2 : Below w1.heap.size w1 w3 := (HB2.out.alloc HB2.out.size _).grown hgrow (by have := HB2.out.size; simp; omega) (fun k hk => (hown.lt k hk).1)
      have H2 := hide hown2
      have H3 := hide hbel2
      clear hown2 hbel2 hown' hgrow hown
      go_wp2
      go_roundw
      case rel => exact ⟨k + 1, by go_num, HC.out, H2.out, H3.out⟩
      case measure => have := HC.out; simp [intOf]; omega
    · obtain rfl : k = 4 := by omega
      obtain ⟨g, cap, cur, hg, hv, hcap, hblk, hcell⟩ := own_post HOWN.out (by rw [pre_length]; omega)
      rw [pre_length] at hv hcap hcell
      rw [hv]
      have CK := hide (CV.out wr g cap ⟨cur, hblk, hcell⟩)
      have Z2 := hide (ZW.out.later HBEL.out ZW.out.lt)
      have B2 := hide (BW.out.trans (HBEL.out.mono BW.out.size))
      clear CV CT hv hg hcap hblk hcell c0 HBEL HOWN ZW BW KX
      go_wp2_with fail
      refine CK.out.mono ?_
      rintro e w2 ⟨rfl, hb⟩
      have Z3 := hide (Z2.out.later hb Z2.out.lt)
      have B3 := hide (B2.out.trans (hb.mono B2.out.size))
      have z := Z3.out
      have r0 : w2.cell? ⟨W.heap.size + 1, 0, none⟩ = some (.int .u64 0) := z.c0
      have r1 : w2.cell? ⟨W.heap.size + 1, 1, none⟩ = some (.int .u64 0) := z.c1
      have z0 : w2.frozen? ⟨W.heap.size + 1, 0, none⟩ = false := z.frozen 0
      have z1 : w2.frozen? ⟨W.heap.size + 1, 1, none⟩ = false := z.frozen 1
      clear z
      clear hb
      go_wp2
      refine bodyPost_ret (v := vecE ((p, q), 0)) ((Z3.out.set2 p q).result2 (by rfl) _ rfl rfl) rfl ?_
      exact ⟨rfl, (B3.out.setCell (by simp) _).setCell (by simp) _⟩

set_option maxHeartbeats 8000000 in
theorem rff_64 (s : Bool) (a0 a1 p q : Nat) (fa f : Nat → Nat)
    (CW : Hide (∀ W : World, Calls Tryd.prog 29 #[.int .i64 64] W fun e W' => e = .returned (.bool true) ∧ W' = W))
    (CA : Hide (∀ W : World, Calls Tryd.prog 30 #[vecV (a0, a1), .int .i64 32] W fun e W' => ListPost W 4 ((List.range 4).map fa) e W'))
    (CT : Hide (∀ i, i < 2 → ∀ W : World, Calls Tryd.prog 46 #[.int .i64 32, .int .i64 64, .bool s, .int .u64 (fa i : Int)] W fun e W' => e = .returned (.tuple #[.int .u64 (f i : Int), .int .i64 0]) ∧ Below W.heap.size W W'))
    (CV : Hide (∀ (W : World) (g cap : Nat), XBlk W g 2 ((List.range 2).map f) → Calls Tryd.prog 32 #[.int .i64 64, .slice (some ⟨g, 0, none⟩) 2 cap] W fun e W' => e = .returned (vecV (p, q)) ∧ Below W.heap.size W W'))
    (W : World) :
    Calls Tryd.prog 19 #[.int .i64 64, .bool s, vecV (a0, a1)] W fun e W' => e = .returned (vecE ((p, q), 0)) ∧ Below W.heap.size W W' := by
  obtain ⟨i0, hi, hz0, hz1, hz2⟩ := info_parts infoW
  obtain ⟨wa, hwa⟩ : ∃ wa, (W.alloc (.cells #[.int .u64 (a0 : Int), .int .u64 (a1 : Int)] 25)).alloc (.cells #[.int .u64 0, .int .u64 0] 25) = wa := ⟨_, rfl⟩
  have ZB : Hide (VBlk wa (W.heap.size + 1) (0, 0)) := hide (by rw [← hwa]; exact alloc_at (by simp))
  have BA : Hide (Below W.heap.size W wa) := hide (by rw [← hwa]; exact ((Below.refl _ _).alloc (Nat.le_refl _) _).alloc (by simp) _)
  have HWA := hide hwa
  clear hwa
  unfold vecV at CA CV ⊢
  simp only at CA CV ⊢
  go_enter Tryd.func19, Tryd.ntmps19
  go_wp2_with ((with_reducible refine (CW.out _).mono ?_); rintro e w0 ⟨rfl, rfl⟩)
  rw [HWA.out]
  refine (CA.out _).mono ?_
  rintro e w1 hpost
  obtain ⟨g1, cap1, hg1, rfl, hcap, hx, hb⟩ := list_x hpost
  have ZW := hide (ZB.out.later hb ZB.out.lt)
  have BW := hide (BA.out.trans (hb.mono BA.out.size))
  have KX := hide hx
  clear hx hb hpost hg1 hcap ZB BA HWA CA
  go_wp2_with fail
  go_loopw [9, 10] (fun v x wr => ∃ k : Nat, x = .int .i64 (k : Int) ∧ k ≤ 2 ∧ OwnW wr w1.heap.size v (pre f k) ∧ Below w1.heap.size w1 wr) (fun _ x _ => 2 - (intOf x).toNat)
  case atStart => exact ⟨0, rfl, by omega, World.ownsRow_nil _ _ _ _, Below.refl _ _⟩
  case round =>
    obtain ⟨k, rfl, hk, hown0, hbel⟩ := hrel
    have HBEL := hide hbel
    have HOWN := hide hown0
    clear hown0 hbel
    by_cases c0 : k < 2
    · have c1 : (k : Int) < 2 := by omega
      have c4 : (k : Int) < 4 := by omega
      have hA : wr.cell? ⟨g1, k, none⟩ = some (.int .u64 (fa k : Int)) := by
        have := (KX.out.later HBEL.out KX.out.lt).cell k (by omega)
        rwa [show at0 ((List.range 4).map fa) k = fa k by simp [at0, List.getElem?_range (show k < 4 by omega)]] at this
      have PS := hide (pre_succ f k)
      have CK := hide (CT.out k c0)
      have HC := hide c0
      clear CT c0 hk
      generalize fa k = xa at *
      obtain ⟨y, hy⟩ : ∃ y, f k = y := ⟨_, rfl⟩
      rw [hy] at CK PS
      clear hy
      go_wp2_with fail
      refine (CK.out _).mono ?_
      rintro e w2 ⟨rfl, hb⟩
      have HB2 := hide (HBEL.out.trans (hb.mono HBEL.out.size))
      have HO2 := hide (HOWN.out.later hb)
      obtain ⟨va, vc, hva⟩ := own_shape HO2.out
      rw [pre_length] at hva
      have hown := HO2.out
      rw [hva] at hown ⊢
      unfold OwnW at hown
      rw [pre_length] at hown
      have C3 : Hid (k + 1 ≤ maxLen) := by show k + 1 ≤ maxLen; have := HC.out; unfold maxLen; omega
      have C4 : Hid ((k + 1) * 8 ≤ 140737488355328) := by show (k + 1) * 8 ≤ 140737488355328; have := HC.out; omega
      have C5 : Hid (∀ o : Obj, w1.heap.size ≤ (w2.alloc o).heap.size) := by intro o; have := HB2.out.size; simp; omega
      clear hva hb hA HBEL HOWN HO2
      go_wp2_with (at_builtin; refine wpList_append_own _ rfl _ _ 45 rfl w1.heap.size 23 i0 (.int .u64 0) 1 8 Tryd.underlying45 hi hz0 hz1 hz2 rfl (by decide) _ _ _ rfl (hown.alloc _) ⟨w2.heap.size, 0, none⟩ 1 1 [.int .u64 (y : Int)] rfl rfl (cell_one_new _ _ _) (one_cell64 _) C3.out C4.out (C5.out _) ?_)
      intro v' w3 hown' hgrow _
      have hown2 : OwnW w3 w1.heap.size v' (pre f (k + 1)) := by
        unfold OwnW
        rw [PS.out]; simpa [pre_length] using hown'
      have hbel2 : Below w1.heap.size w1 w3 := (HB2.out.alloc HB2.out.size _).grown hgrow (by have := HB2.out.size; simp; omega) (fun k hk => (hown.lt k hk).1)
      have H2 := hide hown2
      have H3 := hide hbel2
      clear hown2 hbel2 hown' hgrow hown
      go_wp2
      go_roundw
      case rel => exact ⟨k + 1, by go_num, HC.out, H2.out, H3.out⟩
      case measure => have := HC.out; simp [intOf]; omega
    · obtain rfl : k = 2 := by omega
      obtain ⟨g, cap, cur, hg, hv, hcap, hblk, hcell⟩ := own_post HOWN.out (by rw [pre_length]; omega)
      rw [pre_length] at hv hcap hcell
      rw [hv]
      have CK := hide (CV.out wr g cap ⟨cur, hblk, hcell⟩)
      have Z2 := hide (ZW.out.later HBEL.out ZW.out.lt)
      have B2 := hide (BW.out.trans (HBEL.out.mono BW.out.size))
      clear CV CT hv hg hcap hblk hcell c0 HBEL HOWN ZW BW KX
      go_wp2_with fail
      refine CK.out.mono ?_
      rintro e w2 ⟨rfl, hb⟩
      have Z3 := hide (Z2.out.later hb Z2.out.lt)
      have B3 := hide (B2.out.trans (hb.mono B2.out.size))
      have z := Z3.out
      have r0 : w2.cell? ⟨W.heap.size + 1, 0, none⟩ = some (.int .u64 0) := z.c0
      have r1 : w2.cell? ⟨W.heap.size + 1, 1, none⟩ = some (.int .u64 0) := z.c1
      have z0 : w2.frozen? ⟨W.heap.size + 1, 0, none⟩ = false := z.frozen 0
      have z1 : w2.frozen? ⟨W.heap.size + 1, 1, none⟩ = false := z.frozen 1
      clear z
      clear hb
      go_wp2
      refine bodyPost_ret (v := vecE ((p, q), 0)) ((Z3.out.set2 p q).result2 (by rfl) _ rfl rfl) rfl ?_
      exact ⟨rfl, (B3.out.setCell (by simp) _).setCell (by simp) _⟩

end Go.Proofs.YtpeckiaimellmaaDoor
/-
  The document's Promote, Demote of lanes.
-/
set_option linter.unusedVariables false
set_option linter.unusedSimpArgs false
namespace Go.Proofs.YtpeckiaimellmaaDoor
open Go.RowKit Lan

set_option maxHeartbeats 4000000 in
theorem rfp_walk (a0 a1 p q : Nat) (fa : Nat → Nat)
    (CA : Hide (∀ W : World, Calls Tryd.prog 30 #[vecV (a0, a1), .int .i64 32] W fun e W' => ListPost W 4 ((List.range 4).map fa) e W'))
    (C0 : Hide (∀ W : World, Calls Tryd.prog 48 #[.int .u64 (fa 0 : Int)] W fun e W' => e = .returned (.tuple #[.int .u64 (p : Int), .int .i64 0]) ∧ Below W.heap.size W W'))
    (C1 : Hide (∀ W : World, Calls Tryd.prog 48 #[.int .u64 (fa 1 : Int)] W fun e W' => e = .returned (.tuple #[.int .u64 (q : Int), .int .i64 0]) ∧ Below W.heap.size W W'))
    (W : World) :
    Calls Tryd.prog 21 #[vecV (a0, a1)] W fun e W' => e = .returned (vecV (p, q)) ∧ Below W.heap.size W W' := by
  obtain ⟨wa, hwa⟩ : ∃ wa, (W.alloc (.cells #[.int .u64 (a0 : Int), .int .u64 (a1 : Int)] 25)).alloc (.cells #[.int .u64 0, .int .u64 0] 25) = wa := ⟨_, rfl⟩
  have ZB : Hide (VBlk wa (W.heap.size + 1) (0, 0)) := hide (by rw [← hwa]; exact alloc_at (by simp))
  have BA : Hide (Below W.heap.size W wa) := hide (by rw [← hwa]; exact ((Below.refl _ _).alloc (Nat.le_refl _) _).alloc (by simp) _)
  have HWA := hide hwa
  clear hwa
  unfold vecV at CA ⊢
  simp only at CA ⊢
  go_enter Tryd.func21, Tryd.ntmps21
  go_wp2_with fail
  rw [HWA.out]
  refine (CA.out _).mono ?_
  rintro e w1 hpost
  obtain ⟨g1, cap1, hg1, rfl, hcap, hx, hb⟩ := list_x hpost
  have ZW := hide (ZB.out.later hb ZB.out.lt)
  have BW := hide (BA.out.trans (hb.mono BA.out.size))
  have KX := hide hx
  have h0 : w1.cell? ⟨g1, 0, none⟩ = some (.int .u64 (fa 0 : Int)) := hx.cell 0 (by decide)
  clear hx hb hpost hg1 hcap ZB BA HWA CA
  generalize h : fa 0 = x0 at *
  clear h
  go_wp2_with fail
  refine (C0.out _).mono ?_
  rintro e w2 ⟨rfl, hb⟩
  have Z2 := hide (ZW.out.later hb ZW.out.lt)
  have B2 := hide (BW.out.trans (hb.mono BW.out.size))
  have h1 : w2.cell? ⟨g1, 1, none⟩ = some (.int .u64 (fa 1 : Int)) := (KX.out.later hb KX.out.lt).cell 1 (by decide)
  clear hb h0 ZW BW KX
  generalize fa 1 = x1 at *
  go_wp2_with fail
  refine (C1.out _).mono ?_
  rintro e w3 ⟨rfl, hb⟩
  have Z3 := hide (Z2.out.later hb Z2.out.lt)
  have B3 := hide (B2.out.trans (hb.mono B2.out.size))
  clear hb h1 Z2 B2
  have z := Z3.out
  have r0 : w3.cell? ⟨W.heap.size + 1, 0, none⟩ = some (.int .u64 0) := z.c0
  have r1 : w3.cell? ⟨W.heap.size + 1, 1, none⟩ = some (.int .u64 0) := z.c1
  have z0 : w3.frozen? ⟨W.heap.size + 1, 0, none⟩ = false := z.frozen 0
  have z1 : w3.frozen? ⟨W.heap.size + 1, 1, none⟩ = false := z.frozen 1
  clear z
  go_wp2
  refine bodyPost_ret (v := vecV (p, q)) ((Z3.out.set2 p q).result (by rfl) _ rfl) rfl ?_
  exact ⟨rfl, (B3.out.setCell (by simp) _).setCell (by simp) _⟩

set_option maxHeartbeats 4000000 in
theorem rfd_walk (a0 a1 m n p q : Nat)
    (C0 : Hide (∀ W : World, Calls Tryd.prog 50 #[.int .u64 (a0 : Int)] W fun e W' => e = .returned (.tuple #[.int .u64 (m : Int), .int .i64 0]) ∧ Below W.heap.size W W'))
    (C1 : Hide (∀ W : World, Calls Tryd.prog 50 #[.int .u64 (a1 : Int)] W fun e W' => e = .returned (.tuple #[.int .u64 (n : Int), .int .i64 0]) ∧ Below W.heap.size W W'))
    (CV : Hide (∀ (W : World) (g cap : Nat), XBlk W g 4 [m, n, 0, 0] → Calls Tryd.prog 32 #[.int .i64 32, .slice (some ⟨g, 0, none⟩) 4 cap] W fun e W' => e = .returned (vecV (p, q)) ∧ Below W.heap.size W W'))
    (W : World) :
    Calls Tryd.prog 23 #[vecV (a0, a1)] W fun e W' => e = .returned (vecV (p, q)) ∧ Below W.heap.size W W' := by
  obtain ⟨wa, hwa⟩ : ∃ wa, (W.alloc (.cells #[.int .u64 (a0 : Int), .int .u64 (a1 : Int)] 25)).alloc (.cells #[.int .u64 0, .int .u64 0] 25) = wa := ⟨_, rfl⟩
  have VA : Hide (VBlk wa W.heap.size (a0, a1)) := hide (by rw [← hwa]; exact alloc_past (alloc_at rfl))
  have ZB : Hide (VBlk wa (W.heap.size + 1) (0, 0)) := hide (by rw [← hwa]; exact alloc_at (by simp))
  have BA : Hide (Below W.heap.size W wa) := hide (by rw [← hwa]; exact ((Below.refl _ _).alloc (Nat.le_refl _) _).alloc (by simp) _)
  have c0 := VA.out.c0
  simp only at c0
  have HWA := hide hwa
  clear hwa
  unfold vecV at CV ⊢
  simp only at CV ⊢
  go_enter Tryd.func23, Tryd.ntmps23
  go_wp2_with fail
  rw [HWA.out]
  go_wp2_with fail
  refine (C0.out _).mono ?_
  rintro e w1 ⟨rfl, hb⟩
  have VW := hide (VA.out.later hb VA.out.lt)
  have ZW := hide (ZB.out.later hb ZB.out.lt)
  have BW := hide (BA.out.trans (hb.mono BA.out.size))
  have c1 := VW.out.c1
  simp only at c1
  clear hb c0 VA ZB BA HWA
  go_wp2_with fail
  refine (C1.out _).mono ?_
  rintro e w2 ⟨rfl, hb⟩
  have Z2 := hide (ZW.out.later hb ZW.out.lt)
  have B2 := hide (BW.out.trans (hb.mono BW.out.size))
  clear hb c1 VW ZW BW
  obtain ⟨w3, h3⟩ : ∃ w3, w2.alloc (.cells #[.int .u64 (m : Int), .int .u64 (n : Int), .int .u64 0, .int .u64 0] 23) = w3 := ⟨_, rfl⟩
  have B0 : Below w2.heap.size w2 w3 := by rw [← h3]; exact (Below.refl _ _).alloc (Nat.le_refl _) _
  have X3 : XBlk w3 w2.heap.size 4 [m, n, 0, 0] := by
    rw [← h3]
    exact ⟨_, alloc_at rfl, fun i hi => by rcases (show i = 0 ∨ i = 1 ∨ i = 2 ∨ i = 3 by omega) with rfl | rfl | rfl | rfl <;> rfl⟩
  have Z3 := hide (Z2.out.later B0 Z2.out.lt)
  have B3 := hide (B2.out.trans (B0.mono B2.out.size))
  have CK := hide (CV.out w3 w2.heap.size 4 X3)
  have H3 := hide h3
  clear h3 B0 X3 CV Z2 B2
  go_wp2_with fail
  rw [H3.out]
  refine CK.out.mono ?_
  rintro e w4 ⟨rfl, hb⟩
  have Z4 := hide (Z3.out.later hb Z3.out.lt)
  have B4 := hide (B3.out.trans (hb.mono B3.out.size))
  clear hb Z3 B3 H3 CK
  have z := Z4.out
  have r0 : w4.cell? ⟨W.heap.size + 1, 0, none⟩ = some (.int .u64 0) := z.c0
  have r1 : w4.cell? ⟨W.heap.size + 1, 1, none⟩ = some (.int .u64 0) := z.c1
  have z0 : w4.frozen? ⟨W.heap.size + 1, 0, none⟩ = false := z.frozen 0
  have z1 : w4.frozen? ⟨W.heap.size + 1, 1, none⟩ = false := z.frozen 1
  clear z
  go_wp2
  refine bodyPost_ret (v := vecV (p, q)) ((Z4.out.set2 p q).result (by rfl) _ rfl) rfl ?_
  exact ⟨rfl, (B4.out.setCell (by simp) _).setCell (by simp) _⟩
end Go.Proofs.YtpeckiaimellmaaDoor
