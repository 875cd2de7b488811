/-
  The document's Swizzle.
-/
import Derived.Test.YtdhanapmknlobaaDoorLanPar
import Derived.Test.YtdhanapmknlobaaDoorLanRef1
set_option linter.unusedVariables false
set_option linter.unusedSimpArgs false
namespace Go.Proofs.YtdhanapmknlobaaDoor
open Go.RowKit Lan

set_option maxHeartbeats 8000000 in
theorem rswiz_walk (a0 a1 b0 b1 p q : Nat) (A B : List Nat) (hA : A.length = 16) (hB : B.length = 16) (f : Nat → Nat) (hf : ∀ i, f i = if at0 B i < 16 then at0 A (at0 B i) else 0)
    (CA : Hide (∀ W : World, Calls Tryd.prog 22 #[vecV (a0, a1)] W fun e W' => e = .returned (.agg (cellsB A)) ∧ Below W.heap.size W W'))
    (CB : Hide (∀ W : World, Calls Tryd.prog 22 #[vecV (b0, b1)] W fun e W' => e = .returned (.agg (cellsB B)) ∧ Below W.heap.size W W'))
    (CO : Hide (∀ W : World, Calls Tryd.prog 24 #[.agg (cellsB (fillTo f 16))] W fun e W' => e = .returned (vecV (p, q)) ∧ Below W.heap.size W W'))
    (W : World) :
    Calls Tryd.prog 28 #[vecV (a0, a1), vecV (b0, b1)] W fun e W' => e = .returned (vecV (p, q)) ∧ Below W.heap.size W W' := by
  have HA := hide hA
  have HB := hide hB
  have HF := hide hf
  have IX := hide (fun (k : Nat) (hk : k < 16) => index16 hB k hk)
  clear hA hB hf
  obtain ⟨wa, hwa⟩ : ∃ wa, ((W.alloc (.cells #[.int .u64 (a0 : Int), .int .u64 (a1 : Int)] 24)).alloc (.cells #[.int .u64 (b0 : Int), .int .u64 (b1 : Int)] 24)).alloc (.cells #[.int .u64 0, .int .u64 0] 24) = wa := ⟨_, rfl⟩
  have VA : Hide (VBlk wa W.heap.size (a0, a1)) := hide (by rw [← hwa]; exact alloc_past (alloc_past (alloc_at rfl)))
  have VB : Hide (VBlk wa (W.heap.size + 1) (b0, b1)) := hide (by rw [← hwa]; exact alloc_past (alloc_at (by simp)))
  have ZB : Hide (VBlk wa (W.heap.size + 1 + 1) (0, 0)) := hide (by rw [← hwa]; exact alloc_at (by simp))
  have BA : Hide (Below W.heap.size W wa) := hide (by rw [← hwa]; exact (((Below.refl _ _).alloc (Nat.le_refl _) _).alloc (by simp) _).alloc (by simp; omega) _)
  have HWA := hide hwa
  clear hwa
  unfold vecV at CA CB CO ⊢
  simp only at CA CB CO ⊢
  go_enter Tryd.func28, Tryd.ntmps28
  go_wp2_with fail
  rw [HWA.out]
  refine wp_region_par [9, 10, 11, 12, 5, 6] (Par2 (.agg #[.int .u64 (a0 : Int), .int .u64 (a1 : Int)]) (.agg #[.int .u64 (b0 : Int), .int .u64 (b1 : Int)]) A B wa) (by kernel_rfl) (by kernel_rfl) ?_ ?_ ?_
  · intro vs
    exact ⟨(fun h => by cases h), (fun h => by cases h), (fun h => by cases h), (fun h => by cases h), ⟨(fun h => by cases h), (fun h => by cases h)⟩, ⟨(fun h => by cases h), (fun h => by cases h)⟩, (fun h => by cases h), (Below.refl _ _).drew⟩
  · intro d vs w1 hd hl hJ
    match vs, hl with
    | [x0, x1, x2, x3, x4, x5], _ =>
    obtain ⟨j0, j1, j2, j3, o0, o1, u01, jb⟩ := hJ
    obtain rfl := j0 (hd 0 (by decide))
    obtain rfl := j1 (hd 1 (by decide))
    obtain rfl := j2 (hd 2 (by decide))
    obtain rfl := j3 (hd 3 (by decide))
    obtain ⟨g1, e1, hg1, hk1⟩ := o0.2 (hd 4 (by decide))
    simp only [List.getElem?_cons_zero, List.getElem?_cons_succ, Option.getD_some] at e1
    subst e1
    rw [hd 6 (by decide), if_pos rfl] at hk1
    obtain ⟨g2, e2, hg2, hk2⟩ := o1.2 (hd 5 (by decide))
    simp only [List.getElem?_cons_zero, List.getElem?_cons_succ, Option.getD_some] at e2
    subst e2
    rw [hd 7 (by decide), if_pos rfl] at hk2
    have K1 := hide hk1
    have K2 := hide hk2
    have BW := hide (BA.out.trans (jb.mono BA.out.size))
    have JB := hide jb
    clear hd hl jb j0 j1 j2 j3 o0 hk1 hg1 o1 hk2 hg2 u01
    simp only [putL]
    have ZW := hide (ZB.out.later JB.out ZB.out.lt)
    have S0 : Hide (ShAt W (W.heap.size + 1 + 1) g1 g2 (w1.heap.size) g1 A B (fillTo f 0) A (w1.alloc (.cells (cellsB zero16) 39))) := hide ⟨alloc_past ZW.out, alloc_past K1.out, alloc_past K2.out, alloc_at rfl, alloc_past K1.out, BW.out.alloc BW.out.size _⟩
    have HG1 : Hide (g1 < w1.heap.size) := hide K1.out.lt
    have HG2 : Hide (g2 < w1.heap.size) := hide K2.out.lt
    have HZ : Hide (W.heap.size + 1 + 1 < w1.heap.size) := hide ZW.out.lt
    clear K1 K2 BW JB ZW VA VB ZB BA HWA CA CB
    go_wp2_with fail
    go_loopw [8] (fun x wr => ∃ k : Nat, x = .int .i64 (k : Int) ∧ k ≤ 16 ∧ ShAt W (W.heap.size + 1 + 1) g1 g2 (w1.heap.size) g1 A B (fillTo f k) A wr) (fun x _ => 16 - (intOf x).toNat)
    case atStart => exact ⟨0, rfl, by omega, S0.out⟩
    case round =>
      obtain ⟨k, rfl, hk, hr⟩ := hrel
      have H := hide hr
      clear hr S0
      by_cases c : k < 16
      · have c1 : (k : Int) < 16 := by omega
        have hcl : wr.cell? ⟨g2, k, none⟩ = some (.int .u8 (at0 B k : Int)) := H.out.2.2.1.cell k (by rw [HB.out]; exact c)
        have hfk := HF.out k
        have ST := hide (fill_set f k c)
        have hco : wr.cell? ⟨w1.heap.size, k, none⟩ = some (.int .u8 (at0 (fillTo f k) k : Int)) := H.out.2.2.2.1.cell k (by rw [fill_length]; exact c)
        have hzo : wr.frozen? ⟨w1.heap.size, k, none⟩ = false := H.out.2.2.2.1.frozen k
        generalize at0 B k = n at *
        by_cases n1 : n < 16
        · rw [if_pos n1] at hfk
          have hc1 : wr.cell? ⟨g1, n, none⟩ = some (.int .u8 (f k : Int)) := by rw [hfk]; exact H.out.2.1.cell n (by rw [HA.out]; exact n1)
          have n2 : (n : Int) < 16 := by omega
          have HC := hide c
          clear hfk IX HF
          generalize f k = y at *
          go_wp2
          go_roundw
          case rel => exact ⟨k + 1, by go_num, HC.out, by rw [← ST.out]; exact H.out.put k y (by have := HZ.out; omega) (by have := HG1.out; omega) (by have := HG2.out; omega) (by have := HG1.out; omega) (by have := HZ.out; omega)⟩
          case measure => simp [intOf]; omega
        · rw [if_neg n1] at hfk
          have n2 : ¬ (n : Int) < 16 := by omega
          have SM := hide (fill_same hfk)
          have HC := hide c
          clear hfk IX HF n1
          go_wp2
          go_roundw
          case rel => exact ⟨k + 1, by go_num, HC.out, by rw [SM.out]; exact H.out⟩
          case measure => simp [intOf]; omega
      · have c0 : k = 16 := by omega
        subst c0
        have IF := hide (info16' (fill_length f 16))
        clear IX HF
        go_wp2_with (refine wpList_load_row rfl 39 _ rfl (w1.heap.size) rfl 39 (cellsB (fillTo f 16)) (0, 0) _ H.out.2.2.2.1 under16 rfl IF.out ?_)
        refine (CO.out _).mono ?_
        rintro e w3 ⟨rfl, hb⟩
        have H2 := hide (H.out.later hb)
        have z := H2.out.1
        have r0 : w3.cell? ⟨W.heap.size + 1 + 1, 0, none⟩ = some (.int .u64 0) := z.c0
        have r1 : w3.cell? ⟨W.heap.size + 1 + 1, 1, none⟩ = some (.int .u64 0) := z.c1
        have z0 : w3.frozen? ⟨W.heap.size + 1 + 1, 0, none⟩ = false := z.frozen 0
        have z1 : w3.frozen? ⟨W.heap.size + 1 + 1, 1, none⟩ = false := z.frozen 1
        clear z
        clear hb H
        go_wp2
        refine bodyPost_ret (v := vecV (p, q)) ((H2.out.1.set2 p q).result (by rfl) _ rfl) rfl ?_
        exact ⟨rfl, (H2.out.2.2.2.2.2.setCell (by simp; omega) _).setCell (by simp; omega) _⟩
  · intro i o ho d vs w hl hJ hi hw
    match vs, hl with
    | [x0, x1, x2, x3, x4, x5], _ =>
    have hin : i < 8 := (List.getElem?_eq_some_iff.1 ho).1
    obtain ⟨j0, j1, j2, j3, o0, o1, u01, jb⟩ := hJ
    simp only [List.getElem?_cons_zero, List.getElem?_cons_succ, Option.some.injEq, Option.getD_some] at j0 j1 j2 j3 o0 o1 u01
    rcases (show i = 0 ∨ i = 1 ∨ i = 2 ∨ i = 3 ∨ i = 4 ∨ i = 5 ∨ i = 6 ∨ i = 7 by omega) with rfl | rfl | rfl | rfl | rfl | rfl | rfl | rfl
    · simp only [List.getElem?_cons_zero, List.getElem?_cons_succ, Option.some.injEq] at ho
      subst ho
      have h0 := (VA.out.later jb VA.out.lt).c0
      have h1 := (VA.out.later jb VA.out.lt).c1
      simp only [putL] at h0 h1 ⊢
      go_wp2
      exact ⟨rfl, [_, x1, x2, x3, x4, x5], rfl, rfl, fun _ => rfl, j1, j2, j3, o0, o1, u01, jb⟩
    · simp only [List.getElem?_cons_zero, List.getElem?_cons_succ, Option.some.injEq] at ho
      subst ho
      have hd : d 0 = true := List.all_eq_true.1 hw 0 (by decide)
      obtain rfl := j0 hd
      simp only [putL]
      go_wp2_with ((with_reducible refine (CA.out _).mono ?_); rintro e w1 ⟨rfl, hb⟩)
      exact ⟨rfl, [_, _, x2, x3, x4, x5], rfl, rfl, fun _ => rfl, fun _ => rfl, j2, j3, o0.later hb, o1.later hb, u01, jb.trans (hb.mono jb.size)⟩
    · simp only [List.getElem?_cons_zero, List.getElem?_cons_succ, Option.some.injEq] at ho
      subst ho
      have h0 := (VB.out.later jb VB.out.lt).c0
      have h1 := (VB.out.later jb VB.out.lt).c1
      simp only [putL] at h0 h1 ⊢
      go_wp2
      exact ⟨rfl, [x0, x1, _, x3, x4, x5], rfl, rfl, j0, j1, fun _ => rfl, j3, o0, o1, u01, jb⟩
    · simp only [List.getElem?_cons_zero, List.getElem?_cons_succ, Option.some.injEq] at ho
      subst ho
      have hd : d 2 = true := List.all_eq_true.1 hw 2 (by decide)
      obtain rfl := j2 hd
      simp only [putL]
      go_wp2_with ((with_reducible refine (CB.out _).mono ?_); rintro e w1 ⟨rfl, hb⟩)
      exact ⟨rfl, [x0, x1, _, _, x4, x5], rfl, rfl, j0, j1, fun _ => rfl, fun _ => rfl, o0.later hb, o1.later hb, u01, jb.trans (hb.mono jb.size)⟩
    · simp only [List.getElem?_cons_zero, List.getElem?_cons_succ, Option.some.injEq] at ho
      subst ho
      simp only [putL]
      go_wp2
      exact ⟨rfl, [x0, x1, x2, x3, _, x5], rfl, rfl, j0, j1, j2, j3, o0.fresh hi jb.size (alloc_at rfl), o1.later (below_two w _), fun _ h => Ne.symm (o1.ne h rfl), jb.alloc jb.size _⟩
    · simp only [List.getElem?_cons_zero, List.getElem?_cons_succ, Option.some.injEq] at ho
      subst ho
      simp only [putL]
      go_wp2
      exact ⟨rfl, [x0, x1, x2, x3, x4, _], rfl, rfl, j0, j1, j2, j3, o0.later (below_two w _), o1.fresh hi jb.size (alloc_at rfl), fun h _ => (o0.ne h rfl), jb.alloc jb.size _⟩
    · simp only [List.getElem?_cons_zero, List.getElem?_cons_succ, Option.some.injEq] at ho
      subst ho
      have hd : d 4 = true := List.all_eq_true.1 hw 4 (by decide)
      have hv : d 1 = true := List.all_eq_true.1 hw 1 (by decide)
      obtain rfl := j1 hv
      obtain ⟨g, rfl, hg, hk⟩ := o0.2 hd
      rw [hi] at hk
      have HK := hide hk
      clear hk
      simp only [putL]
      go_wp2_with (refine wpList_store_row rfl 39 _ _ rfl g (cellsB A) rfl rfl 39 (cellsB zero16) HK.out (info16' HA.out) (by rw [cellsB_size, cellsB_size, HA.out]; rfl) (cellsB_one A) ?_)
      exact ⟨rfl, [x0, _, x2, x3, _, x5], rfl, rfl, j0, fun _ => rfl, j2, j3, ⟨fun _ => hd, fun _ => ⟨g, rfl, hg, setRow_heap _ _ _ _ _ _ HK.out⟩⟩, o1.other fun h => u01 hd h, u01, below_setRow jb hg _⟩
    · simp only [List.getElem?_cons_zero, List.getElem?_cons_succ, Option.some.injEq] at ho
      subst ho
      have hd : d 5 = true := List.all_eq_true.1 hw 5 (by decide)
      have hv : d 3 = true := List.all_eq_true.1 hw 3 (by decide)
      obtain rfl := j3 hv
      obtain ⟨g, rfl, hg, hk⟩ := o1.2 hd
      rw [hi] at hk
      have HK := hide hk
      clear hk
      simp only [putL]
      go_wp2_with (refine wpList_store_row rfl 39 _ _ rfl g (cellsB B) rfl rfl 39 (cellsB zero16) HK.out (info16' HB.out) (by rw [cellsB_size, cellsB_size, HB.out]; rfl) (cellsB_one B) ?_)
      exact ⟨rfl, [x0, x1, x2, _, x4, _], rfl, rfl, j0, j1, j2, fun _ => rfl, o0.other fun h => Ne.symm (u01 h hd), ⟨fun _ => hd, fun _ => ⟨g, rfl, hg, setRow_heap _ _ _ _ _ _ HK.out⟩⟩, u01, below_setRow jb hg _⟩

theorem rswiz_calls (a b : Nat × Nat) (ha : Vok a) (hb : Vok b) (W : World) :
    Calls Tryd.prog 28 #[vecV a, vecV b] W fun e W' => e = .returned (vecV (swizV a b)) ∧ Below W.heap.size W W' := by
  have CA := fun W => rbytes_calls a W
  have CB := fun W => rbytes_calls b W
  have CO := fun W => rofBytes_calls (swizL (listN a 8) (listN b 8)) (list16f_length _) (swiz_lanes (list_lanes a 8) (listN b 8)) W
  have hA := listN_length a 8
  have hB := listN_length b 8
  have e : swizL (listN a 8) (listN b 8) = fillTo (fun i => if at0 (listN b 8) i < 16 then at0 (listN a 8) (at0 (listN b 8) i) else 0) 16 := by rw [fill_all]; rfl
  unfold swizV
  obtain ⟨⟨p, q⟩, hF⟩ : ∃ F, vecN 8 (swizL (listN a 8) (listN b 8)) = F := ⟨_, rfl⟩
  rw [hF] at CO ⊢
  rw [e] at CO
  obtain ⟨a0, a1⟩ := a
  obtain ⟨b0, b1⟩ := b
  clear hF e
  generalize listN (a0, a1) 8 = A at *
  generalize listN (b0, b1) 8 = B at *
  unfold arrV at CA CB CO
  exact rswiz_walk a0 a1 b0 b1 p q A B hA hB _ (fun i => rfl) (hide CA) (hide CB) (hide CO) W
end Go.Proofs.YtdhanapmknlobaaDoor
