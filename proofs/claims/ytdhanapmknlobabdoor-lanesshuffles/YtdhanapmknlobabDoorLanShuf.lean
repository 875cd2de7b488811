/-
  lanes.Shuffle.
-/
import Derived.Test.YtdhanapmknlobabDoorLanPar

set_option linter.unusedVariables false
set_option linter.unusedSimpArgs false
namespace Go.Proofs.YtdhanapmknlobabDoor
open Go.RowKit Lan

set_option maxHeartbeats 8000000 in
theorem lshuf_walk (a0 a1 b0 b1 p q : Nat) (A B L : List Nat) (hA : A.length = 16) (hB : B.length = 16) (hL : L.length = 16) (hLn : Lanes 8 L) (f : Nat → Nat) (hf : ∀ i, f i = takeN A B (at0 L i))
    (CA : Hide (∀ W : World, Calls Tryd.prog 11 #[vecV (a0, a1)] W fun e W' => e = .returned (.agg (cellsB A)) ∧ Below W.heap.size W W'))
    (CB : Hide (∀ W : World, Calls Tryd.prog 11 #[vecV (b0, b1)] W fun e W' => e = .returned (.agg (cellsB B)) ∧ Below W.heap.size W W'))
    (CO : Hide (∀ W : World, Calls Tryd.prog 26 #[.agg (cellsB (fillTo f 16))] W fun e W' => e = .returned (vecV (p, q)) ∧ Below W.heap.size W W'))
    (R : (Nat × Nat) × Int) (HR : Hide ((if okSh L then ((p, q), 0) else (((0, 0) : Nat × Nat), (2 : Int))) = R))
    (W : World) :
    Calls Tryd.prog 12 #[vecV (a0, a1), vecV (b0, b1), .agg (cellsB L)] W fun e W' => e = .returned (vecE R) ∧ Below W.heap.size W W' := by
  have HA := hide hA
  have HB := hide hB
  have HL := hide hL
  have HN := hide hLn
  have HF := hide hf
  have IX := hide (fun (k : Nat) (hk : k < 16) => index16 hL k hk)
  clear hA hB hL hLn hf
  obtain ⟨wa, hwa⟩ : ∃ wa, (((W.alloc (.cells #[.int .u64 (a0 : Int), .int .u64 (a1 : Int)] 24)).alloc (.cells #[.int .u64 (b0 : Int), .int .u64 (b1 : Int)] 24)).alloc (.cells (cellsB L) 34)).alloc (.cells #[.int .u64 0, .int .u64 0] 24) = wa := ⟨_, rfl⟩
  have VA : Hide (VBlk wa W.heap.size (a0, a1)) := hide (by rw [← hwa]; exact alloc_past (alloc_past (alloc_past (alloc_at rfl))))
  have VB : Hide (VBlk wa (W.heap.size + 1) (b0, b1)) := hide (by rw [← hwa]; exact alloc_past (alloc_past (alloc_at (by simp))))
  have LB : Hide (Blk wa (W.heap.size + 1 + 1) L) := hide (by rw [← hwa]; exact alloc_past (alloc_at (by simp)))
  have ZB : Hide (VBlk wa (W.heap.size + 1 + 1 + 1) (0, 0)) := hide (by rw [← hwa]; exact alloc_at (by simp))
  have BA : Hide (Below W.heap.size W wa) := hide (by rw [← hwa]; exact ((((Below.refl _ _).alloc (Nat.le_refl _) _).alloc (by simp) _).alloc (by simp; omega) _).alloc (by simp; omega) _)
  have HWA := hide hwa
  clear hwa
  unfold vecV at CA CB CO ⊢
  simp only at CA CB CO ⊢
  go_enter Tryd.func12, Tryd.ntmps12
  go_wp2_with fail
  rw [HWA.out]
  refine wp_region_par [13, 14, 15, 16, 8, 9] (Par2 (.agg #[.int .u64 (a0 : Int), .int .u64 (a1 : Int)]) (.agg #[.int .u64 (b0 : Int), .int .u64 (b1 : Int)]) A B wa) (by kernel_rfl) (by kernel_rfl) ?_ ?_ ?_
  · intro vs
    exact ⟨(fun h => by cases h), (fun h => by cases h), (fun h => by cases h), (fun h => by cases h), ⟨(fun h => by cases h), (fun h => by cases h)⟩, ⟨(fun h => by cases h), (fun h => by cases h)⟩, (fun h => by cases h), (Below.refl _ _).drew⟩
  · intro d vs w1 hd hl hJ
    match vs, hl with
    | [x0, x1, x2, x3, x4, x5], _ =>
    obtain ⟨j0, j1, j2, j3, o0, o1, u01, jb⟩ := hJ
    obtain rfl := j0 (hd 0 (by decide))
    obtain rfl := j1 (hd 1 (by decide))
    obtain rfl := j2 (hd 2 (by decide))
    obtain rfl := j3 (hd 3 (by decide))
    obtain ⟨g1, e1, hg1, hk1⟩ := o0.2 (hd 4 (by decide))
    simp only [List.getElem?_cons_zero, List.getElem?_cons_succ, Option.getD_some] at e1
    subst e1
    rw [hd 6 (by decide), if_pos rfl] at hk1
    obtain ⟨g2, e2, hg2, hk2⟩ := o1.2 (hd 5 (by decide))
    simp only [List.getElem?_cons_zero, List.getElem?_cons_succ, Option.getD_some] at e2
    subst e2
    rw [hd 7 (by decide), if_pos rfl] at hk2
    have K1 := hide hk1
    have K2 := hide hk2
    have BW := hide (BA.out.trans (jb.mono BA.out.size))
    have JB := hide jb
    clear hd hl jb j0 j1 j2 j3 o0 hk1 hg1 o1 hk2 hg2 u01
    simp only [putL, Act.put, List.setIfInBounds_toArray, List.set_cons_succ, List.set_cons_zero]
    have LW : Hide (Blk (w1.alloc (.cells (cellsB zero16) 34)) (W.heap.size + 1 + 1) L) := hide (alloc_past (LB.out.later JB.out LB.out.lt))
    have ZW := hide (ZB.out.later JB.out ZB.out.lt)
    have S0 : Hide (ShAt W (W.heap.size + 1 + 1 + 1) g1 g2 w1.heap.size (W.heap.size + 1 + 1) A B (fillTo f 0) L (w1.alloc (.cells (cellsB zero16) 34))) := hide ⟨alloc_past ZW.out, alloc_past K1.out, alloc_past K2.out, alloc_at rfl, LW.out, BW.out.alloc BW.out.size _⟩
    have HG1 : Hide (g1 < w1.heap.size) := hide K1.out.lt
    have HG2 : Hide (g2 < w1.heap.size) := hide K2.out.lt
    have HZ : Hide (W.heap.size + 1 + 1 + 1 < w1.heap.size) := hide ZW.out.lt
    have IN := hide (info16' HL.out)
    clear K1 K2 BW JB ZW VA VB LB ZB BA HWA CA CB
    go_wp2_with (refine wpList_load_row rfl 34 _ rfl (W.heap.size + 1 + 1) rfl 34 (cellsB L) (0, 0) _ LW.out under16 rfl IN.out ?_)
    go_loopw [18] (fun x wr => ∃ k : Nat, x = .int .i64 (k : Int) ∧ k ≤ 16 ∧ (∀ j, j < k → at0 L j < 32) ∧ ShAt W (W.heap.size + 1 + 1 + 1) g1 g2 w1.heap.size (W.heap.size + 1 + 1) A B (fillTo f k) L wr) (fun x _ => 16 - (intOf x).toNat)
    case atStart => exact ⟨0, rfl, by omega, fun j hj => by omega, S0.out⟩
    case round =>
      obtain ⟨k, rfl, hk, hok, hr⟩ := hrel
      have H := hide hr
      have HOK := hide hok
      clear hr hok LW S0
      by_cases c : k < 16
      · have c1 : (k : Int) < 16 := by omega
        have IK := IX.out k c
        have hfk := HF.out k
        unfold takeN at hfk
        have ST := hide (fill_set f k c)
        have hn8 := HN.out k
        have hco : wr.cell? ⟨w1.heap.size, k, none⟩ = some (.int .u8 (at0 (fillTo f k) k : Int)) := H.out.2.2.2.1.cell k (by rw [fill_length]; exact c)
        have hzo : wr.frozen? ⟨w1.heap.size, k, none⟩ = false := H.out.2.2.2.1.frozen k
        have HBAD : Hide (¬ at0 L k < 32 → okSh L = false) := hide (fun h => okSh_false (by rw [HL.out]; exact c) h)
        have HST : Hide (at0 L k < 32 → ∀ j, j < k + 1 → at0 L j < 32) := hide (fun h j hj => by
          by_cases e : j = k
          · subst e; exact h
          · exact HOK.out j (by omega))
        generalize at0 L k = n at *
        by_cases n1 : n < 16
        · rw [if_pos n1] at hfk
          have HS := hide (HST.out (by omega))
          have hc1 : wr.cell? ⟨g1, n, none⟩ = some (.int .u8 (f k : Int)) := by rw [hfk]; exact H.out.2.1.cell n (by rw [HA.out]; exact n1)
          have n2 : (n : Int) < 16 := by omega
          have HC := hide c
          clear hfk hn8 HBAD HST IX HF HOK
          generalize f k = y at *
          go_wp2
          go_roundw
          case rel => exact ⟨k + 1, by go_num, HC.out, HS.out, by rw [← ST.out]; exact H.out.put k y (by have := HZ.out; omega) (by have := HG1.out; omega) (by have := HG2.out; omega) (by have := HZ.out; omega) (by have := HZ.out; omega)⟩
          case measure => simp [intOf]; omega
        · rw [if_neg n1] at hfk
          have n2 : ¬ (n : Int) < 16 := by omega
          by_cases n3 : n < 32
          · have HS := hide (HST.out n3)
            obtain ⟨m, hm⟩ : ∃ m, n - 16 = m := ⟨_, rfl⟩
            have hmw : IntKind.u8.wrap ((n : Int) - 16) = (m : Int) := by rw [IntKind.wrap_u8]; omega
            have hm1 : (m : Int) < 16 := by omega
            rw [hm] at hfk
            have hc2 : wr.cell? ⟨g2, m, none⟩ = some (.int .u8 (f k : Int)) := by rw [hfk]; exact H.out.2.2.1.cell m (by rw [HB.out]; omega)
            have n4 : (n : Int) < 32 := by omega
            have HC := hide c
            clear hfk hn8 HBAD HST hm n3 IX HF HOK n1
            generalize f k = y at *
            go_wp2
            go_roundw
            case rel => exact ⟨k + 1, by go_num, HC.out, HS.out, by rw [← ST.out]; exact H.out.put k y (by have := HZ.out; omega) (by have := HG1.out; omega) (by have := HG2.out; omega) (by have := HZ.out; omega) (by have := HZ.out; omega)⟩
            case measure => simp [intOf]; omega
          · have e2 : R = ((0, 0), 2) := by rw [← HR.out, HBAD.out n3]; rfl
            subst e2
            have n4 : ¬ (n : Int) < 32 := by omega
            have z := H.out.1
            have r0 : wr.cell? ⟨W.heap.size + 1 + 1 + 1, 0, none⟩ = some (.int .u64 0) := z.c0
            have r1 : wr.cell? ⟨W.heap.size + 1 + 1 + 1, 1, none⟩ = some (.int .u64 0) := z.c1
            have z0 : wr.frozen? ⟨W.heap.size + 1 + 1 + 1, 0, none⟩ = false := z.frozen 0
            have z1 : wr.frozen? ⟨W.heap.size + 1 + 1 + 1, 1, none⟩ = false := z.frozen 1
            clear z
            clear hfk hn8 HBAD HST n3 HR IX HF HOK n1
            go_wp2
            refine bodyPost_ret (v := vecE ((0, 0), 2)) ((H.out.1.set2 0 0).result2 (by rfl) _ rfl rfl) rfl ?_
            exact ⟨rfl, (H.out.2.2.2.2.2.setCell (by simp; omega) _).setCell (by simp; omega) _⟩
      · have c0 : k = 16 := by omega
        subst c0
        have e2 : R = ((p, q), 0) := by rw [← HR.out, okSh_true (by rw [HL.out]; exact HOK.out)]; rfl
        subst e2
        have IF := hide (info16' (fill_length f 16))
        clear HR IX HF HOK
        go_wp2_with (refine wpList_load_row rfl 34 _ rfl w1.heap.size rfl 34 (cellsB (fillTo f 16)) (0, 0) _ H.out.2.2.2.1 under16 rfl IF.out ?_)
        refine (CO.out _).mono ?_
        rintro e w2 ⟨rfl, hb⟩
        have H2 := hide (H.out.later hb)
        have z := H2.out.1
        have r0 : w2.cell? ⟨W.heap.size + 1 + 1 + 1, 0, none⟩ = some (.int .u64 0) := z.c0
        have r1 : w2.cell? ⟨W.heap.size + 1 + 1 + 1, 1, none⟩ = some (.int .u64 0) := z.c1
        have z0 : w2.frozen? ⟨W.heap.size + 1 + 1 + 1, 0, none⟩ = false := z.frozen 0
        have z1 : w2.frozen? ⟨W.heap.size + 1 + 1 + 1, 1, none⟩ = false := z.frozen 1
        clear z
        clear hb H
        go_wp2
        refine bodyPost_ret (v := vecE ((p, q), 0)) ((H2.out.1.set2 p q).result2 (by rfl) _ rfl rfl) rfl ?_
        exact ⟨rfl, (H2.out.2.2.2.2.2.setCell (by simp; omega) _).setCell (by simp; omega) _⟩
  · intro i o ho d vs w hl hJ hi hw
    match vs, hl with
    | [x0, x1, x2, x3, x4, x5], _ =>
    have hin : i < 8 := (List.getElem?_eq_some_iff.1 ho).1
    obtain ⟨j0, j1, j2, j3, o0, o1, u01, jb⟩ := hJ
    simp only [List.getElem?_cons_zero, List.getElem?_cons_succ, Option.some.injEq, Option.getD_some] at j0 j1 j2 j3 o0 o1 u01
    rcases (show i = 0 ∨ i = 1 ∨ i = 2 ∨ i = 3 ∨ i = 4 ∨ i = 5 ∨ i = 6 ∨ i = 7 by omega) with rfl | rfl | rfl | rfl | rfl | rfl | rfl | rfl
    · simp only [List.getElem?_cons_zero, List.getElem?_cons_succ, Option.some.injEq] at ho
      subst ho
      have h0 := (VA.out.later jb VA.out.lt).c0
      have h1 := (VA.out.later jb VA.out.lt).c1
      simp only [putL, Act.put, List.setIfInBounds_toArray, List.set_cons_succ, List.set_cons_zero] at h0 h1 ⊢
      go_wp2
      exact ⟨rfl, [_, x1, x2, x3, x4, x5], rfl, (by simp only [putL, Act.put, List.setIfInBounds_toArray, List.set_cons_succ, List.set_cons_zero]), fun _ => rfl, j1, j2, j3, o0, o1, u01, jb⟩
    · simp only [List.getElem?_cons_zero, List.getElem?_cons_succ, Option.some.injEq] at ho
      subst ho
      have hd : d 0 = true := List.all_eq_true.1 hw 0 (by decide)
      obtain rfl := j0 hd
      simp only [putL, Act.put, List.setIfInBounds_toArray, List.set_cons_succ, List.set_cons_zero]
      go_wp2_with ((with_reducible refine (CA.out _).mono ?_); rintro e w1 ⟨rfl, hb⟩)
      exact ⟨rfl, [_, _, x2, x3, x4, x5], rfl, (by simp only [putL, Act.put, List.setIfInBounds_toArray, List.set_cons_succ, List.set_cons_zero]), fun _ => rfl, fun _ => rfl, j2, j3, o0.later hb, o1.later hb, u01, jb.trans (hb.mono jb.size)⟩
    · simp only [List.getElem?_cons_zero, List.getElem?_cons_succ, Option.some.injEq] at ho
      subst ho
      have h0 := (VB.out.later jb VB.out.lt).c0
      have h1 := (VB.out.later jb VB.out.lt).c1
      simp only [putL, Act.put, List.setIfInBounds_toArray, List.set_cons_succ, List.set_cons_zero] at h0 h1 ⊢
      go_wp2
      exact ⟨rfl, [x0, x1, _, x3, x4, x5], rfl, (by simp only [putL, Act.put, List.setIfInBounds_toArray, List.set_cons_succ, List.set_cons_zero]), j0, j1, fun _ => rfl, j3, o0, o1, u01, jb⟩
    · simp only [List.getElem?_cons_zero, List.getElem?_cons_succ, Option.some.injEq] at ho
      subst ho
      have hd : d 2 = true := List.all_eq_true.1 hw 2 (by decide)
      obtain rfl := j2 hd
      simp only [putL, Act.put, List.setIfInBounds_toArray, List.set_cons_succ, List.set_cons_zero]
      go_wp2_with ((with_reducible refine (CB.out _).mono ?_); rintro e w1 ⟨rfl, hb⟩)
      exact ⟨rfl, [x0, x1, _, _, x4, x5], rfl, (by simp only [putL, Act.put, List.setIfInBounds_toArray, List.set_cons_succ, List.set_cons_zero]), j0, j1, fun _ => rfl, fun _ => rfl, o0.later hb, o1.later hb, u01, jb.trans (hb.mono jb.size)⟩
    · simp only [List.getElem?_cons_zero, List.getElem?_cons_succ, Option.some.injEq] at ho
      subst ho
      simp only [putL, Act.put, List.setIfInBounds_toArray, List.set_cons_succ, List.set_cons_zero]
      go_wp2
      exact ⟨rfl, [x0, x1, x2, x3, _, x5], rfl, (by simp only [putL, Act.put, List.setIfInBounds_toArray, List.set_cons_succ, List.set_cons_zero]), j0, j1, j2, j3, o0.fresh hi jb.size (alloc_at rfl), o1.later (below_two w _), fun _ h => Ne.symm (o1.ne h rfl), jb.alloc jb.size _⟩
    · simp only [List.getElem?_cons_zero, List.getElem?_cons_succ, Option.some.injEq] at ho
      subst ho
      simp only [putL, Act.put, List.setIfInBounds_toArray, List.set_cons_succ, List.set_cons_zero]
      go_wp2
      exact ⟨rfl, [x0, x1, x2, x3, x4, _], rfl, (by simp only [putL, Act.put, List.setIfInBounds_toArray, List.set_cons_succ, List.set_cons_zero]), j0, j1, j2, j3, o0.later (below_two w _), o1.fresh hi jb.size (alloc_at rfl), fun h _ => (o0.ne h rfl), jb.alloc jb.size _⟩
    · simp only [List.getElem?_cons_zero, List.getElem?_cons_succ, Option.some.injEq] at ho
      subst ho
      have hd : d 4 = true := List.all_eq_true.1 hw 4 (by decide)
      have hv : d 1 = true := List.all_eq_true.1 hw 1 (by decide)
      obtain rfl := j1 hv
      obtain ⟨g, rfl, hg, hk⟩ := o0.2 hd
      rw [hi] at hk
      have HK := hide hk
      clear hk
      simp only [putL, Act.put, List.setIfInBounds_toArray, List.set_cons_succ, List.set_cons_zero]
      go_wp2_with (refine wpList_store_row rfl 34 _ _ rfl g (cellsB A) rfl rfl 34 (cellsB zero16) HK.out (info16' HA.out) (by rw [cellsB_size, cellsB_size, HA.out]; rfl) (cellsB_one A) ?_)
      exact ⟨rfl, [x0, _, x2, x3, _, x5], rfl, (by simp only [putL, Act.put, List.setIfInBounds_toArray, List.set_cons_succ, List.set_cons_zero]), j0, fun _ => rfl, j2, j3, ⟨fun _ => hd, fun _ => ⟨g, rfl, hg, setRow_heap _ _ _ _ _ _ HK.out⟩⟩, o1.other fun h => u01 hd h, u01, below_setRow jb hg _⟩
    · simp only [List.getElem?_cons_zero, List.getElem?_cons_succ, Option.some.injEq] at ho
      subst ho
      have hd : d 5 = true := List.all_eq_true.1 hw 5 (by decide)
      have hv : d 3 = true := List.all_eq_true.1 hw 3 (by decide)
      obtain rfl := j3 hv
      obtain ⟨g, rfl, hg, hk⟩ := o1.2 hd
      rw [hi] at hk
      have HK := hide hk
      clear hk
      simp only [putL, Act.put, List.setIfInBounds_toArray, List.set_cons_succ, List.set_cons_zero]
      go_wp2_with (refine wpList_store_row rfl 34 _ _ rfl g (cellsB B) rfl rfl 34 (cellsB zero16) HK.out (info16' HB.out) (by rw [cellsB_size, cellsB_size, HB.out]; rfl) (cellsB_one B) ?_)
      exact ⟨rfl, [x0, x1, x2, _, x4, _], rfl, (by simp only [putL, Act.put, List.setIfInBounds_toArray, List.set_cons_succ, List.set_cons_zero]), j0, j1, j2, fun _ => rfl, o0.other fun h => Ne.symm (u01 h hd), ⟨fun _ => hd, fun _ => ⟨g, rfl, hg, setRow_heap _ _ _ _ _ _ HK.out⟩⟩, u01, below_setRow jb hg _⟩

theorem lshuf_calls (a b : Nat × Nat) (ha : Vok a) (hb : Vok b) (L : List Nat) (hL : L.length = 16) (hLn : Lanes 8 L) (W : World) :
    Calls Tryd.prog 12 #[vecV a, vecV b, arrV L] W fun e W' => e = .returned (vecE (shufV a b L)) ∧ Below W.heap.size W W' := by
  have CA := fun W => lbytes_calls a ha W
  have CB := fun W => lbytes_calls b hb W
  have CO := fun W => lofBytes_calls (shufL (listN a 8) (listN b 8) L) (list16f_length _) (shuf_lanes (list_lanes a 8) (list_lanes b 8) L) W
  have hA := listN_length a 8
  have hB := listN_length b 8
  have e : shufL (listN a 8) (listN b 8) L = fillTo (fun i => takeN (listN a 8) (listN b 8) (at0 L i)) 16 := by rw [fill_all]; rfl
  unfold shufV
  obtain ⟨⟨p, q⟩, hF⟩ : ∃ F, vecN 8 (shufL (listN a 8) (listN b 8) L) = F := ⟨_, rfl⟩
  rw [hF] at CO ⊢
  rw [e] at CO
  obtain ⟨a0, a1⟩ := a
  obtain ⟨b0, b1⟩ := b
  clear hF e
  generalize listN (a0, a1) 8 = A at *
  generalize listN (b0, b1) 8 = B at *
  unfold arrV at CA CB CO ⊢
  exact lshuf_walk a0 a1 b0 b1 p q A B L hA hB hL hLn _ (fun i => rfl) (hide CA) (hide CB) (hide CO) _ (hide rfl) W
end Go.Proofs.YtdhanapmknlobabDoor
