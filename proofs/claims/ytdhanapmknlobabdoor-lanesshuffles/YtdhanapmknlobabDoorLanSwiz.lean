/-
  lanes.Swizzle.
-/
import Derived.Test.YtdhanapmknlobabDoorLanPar

set_option linter.unusedVariables false
set_option linter.unusedSimpArgs false
namespace Go.Proofs.YtdhanapmknlobabDoor
open Go.RowKit Lan

set_option maxHeartbeats 8000000 in
theorem lswiz_walk (a0 a1 b0 b1 p q : Nat) (A B : List Nat) (hA : A.length = 16) (hB : B.length = 16) (f : Nat → Nat) (hf : ∀ i, f i = if at0 B i < 16 then at0 A (at0 B i) else 0)
    (CA : Hide (∀ W : World, Calls Tryd.prog 11 #[vecV (a0, a1)] W fun e W' => e = .returned (.agg (cellsB A)) ∧ Below W.heap.size W W'))
    (CB : Hide (∀ W : World, Calls Tryd.prog 11 #[vecV (b0, b1)] W fun e W' => e = .returned (.agg (cellsB B)) ∧ Below W.heap.size W W'))
    (CO : Hide (∀ W : World, Calls Tryd.prog 26 #[.agg (cellsB (fillTo f 16))] W fun e W' => e = .returned (vecV (p, q)) ∧ Below W.heap.size W W'))
    (W : World) :
    Calls Tryd.prog 13 #[vecV (a0, a1), vecV (b0, b1)] W fun e W' => e = .returned (vecV (p, q)) ∧ Below W.heap.size W W' := by
  have HA := hide hA
  have HB := hide hB
  have HF := hide hf
  have IX := hide (fun (k : Nat) (hk : k < 16) => index16 hB k hk)
  clear hA hB hf
  obtain ⟨wa, hwa⟩ : ∃ wa, ((W.alloc (.cells #[.int .u64 (a0 : Int), .int .u64 (a1 : Int)] 24)).alloc (.cells #[.int .u64 (b0 : Int), .int .u64 (b1 : Int)] 24)).alloc (.cells #[.int .u64 0, .int .u64 0] 24) = wa := ⟨_, rfl⟩
  have VA : Hide (VBlk wa W.heap.size (a0, a1)) := hide (by rw [← hwa]; exact alloc_past (alloc_past (alloc_at rfl)))
  have VB : Hide (VBlk wa (W.heap.size + 1) (b0, b1)) := hide (by rw [← hwa]; exact alloc_past (alloc_at (by simp)))
  have ZB : Hide (VBlk wa (W.heap.size + 1 + 1) (0, 0)) := hide (by rw [← hwa]; exact alloc_at (by simp))
  have BA : Hide (Below W.heap.size W wa) := hide (by rw [← hwa]; exact (((Below.refl _ _).alloc (Nat.le_refl _) _).alloc (by simp) _).alloc (by simp; omega) _)
  have HWA := hide hwa
  clear hwa
  unfold vecV at CA CB CO ⊢
  simp only at CA CB CO ⊢
  go_enter Tryd.func13, Tryd.ntmps13
  have h0 := VA.out.c0
  have h1 := VA.out.c1
  simp only at h0 h1
  rw [← HWA.out] at h0 h1
  go_wp2_with fail
  rw [HWA.out]
  refine (CA.out _).mono ?_
  rintro e w1 ⟨rfl, hb⟩
  have JB := hide hb
  have BW := hide (BA.out.trans (hb.mono BA.out.size))
  have AL : Hide (Blk (w1.alloc (.cells (cellsB zero16) 34)) w1.heap.size zero16) := hide (alloc_at rfl)
  clear hb h0 h1
  obtain ⟨wb, hwb⟩ : ∃ wb, (w1.alloc (.cells #[.int .u8 0, .int .u8 0, .int .u8 0, .int .u8 0, .int .u8 0, .int .u8 0, .int .u8 0, .int .u8 0, .int .u8 0, .int .u8 0, .int .u8 0, .int .u8 0, .int .u8 0, .int .u8 0, .int .u8 0, .int .u8 0] 34)).setRow w1.heap.size (cellsB A) = wb := ⟨_, rfl⟩
  have KB : Hide (Blk wb w1.heap.size A) := hide (by rw [← hwb]; exact setRow_heap _ _ _ _ _ _ AL.out)
  have BB : Hide (Below wa.heap.size wa wb) := hide (by rw [← hwb]; exact below_setRow (JB.out.alloc JB.out.size _) JB.out.size _)
  have SB : Hide (wb.heap.size = w1.heap.size + 1) := hide (by rw [← hwb]; simp)
  have HWB := hide hwb
  clear hwb
  have q0 : wb.cell? ⟨W.heap.size + 1, 0, none⟩ = some (.int .u64 (b0 : Int)) := VBlk.c0 (v := (b0, b1)) (VB.out.later BB.out VB.out.lt)
  have q1 : wb.cell? ⟨W.heap.size + 1, 1, none⟩ = some (.int .u64 (b1 : Int)) := VBlk.c1 (v := (b0, b1)) (VB.out.later BB.out VB.out.lt)
  have hlt : W.heap.size + 1 < wb.heap.size := (VB.out.later BB.out VB.out.lt).lt
  go_wp2_with (refine wpList_store_row rfl 34 _ _ rfl w1.heap.size (cellsB A) rfl rfl 34 (cellsB zero16) AL.out (info16' HA.out) (by rw [cellsB_size, cellsB_size, HA.out]; rfl) (cellsB_one A) ?_; rw [HWB.out])
  refine (CB.out _).mono ?_
  rintro e w2 ⟨rfl, hb⟩
  have ZW : Hide (VBlk wb (W.heap.size + 1 + 1) (0, 0)) := hide (ZB.out.later BB.out ZB.out.lt)
  have B3 : Hide (Below W.heap.size W w2) := hide (((BA.out.trans (BB.out.mono BA.out.size)).alloc (by have := BA.out.size; have := BB.out.size; omega) (.cells (cellsB zero16) 34)).trans (hb.mono (by simp; have := BA.out.size; have := BB.out.size; omega)))
  have S0 : Hide (ShAt W (W.heap.size + 1 + 1) w1.heap.size w1.heap.size (wb.heap.size) w1.heap.size A A (fillTo f 0) A w2) := hide ⟨VBlk.later (alloc_past ZW.out) hb (by simp; have := ZW.out.lt; omega), Blk.later (alloc_past KB.out) hb (by simp; have := KB.out.lt; omega), Blk.later (alloc_past KB.out) hb (by simp; have := KB.out.lt; omega), Blk.later (alloc_at rfl) hb (by simp), Blk.later (alloc_past KB.out) hb (by simp; have := KB.out.lt; omega), B3.out⟩
  have HG1 : Hide (w1.heap.size < wb.heap.size) := hide KB.out.lt
  have HG2 : Hide (w1.heap.size < wb.heap.size) := hide KB.out.lt
  have HZ : Hide (W.heap.size + 1 + 1 < wb.heap.size) := hide ZW.out.lt
  clear hb q0 q1 hlt ZW B3 KB BB SB AL VA VB ZB BA HWA HWB CA CB JB BW
  go_wp2_with fail
  go_loopw [13] (fun x wr => ∃ k : Nat, x = .int .i64 (k : Int) ∧ k ≤ 16 ∧ ShAt W (W.heap.size + 1 + 1) w1.heap.size w1.heap.size (wb.heap.size) w1.heap.size A A (fillTo f k) A wr) (fun x _ => 16 - (intOf x).toNat)
  case atStart => exact ⟨0, rfl, by omega, S0.out⟩
  case round =>
    obtain ⟨k, rfl, hk, hr⟩ := hrel
    have H := hide hr
    clear hr S0
    by_cases c : k < 16
    · have c1 : (k : Int) < 16 := by omega
      have IK := IX.out k c
      have hfk := HF.out k
      have ST := hide (fill_set f k c)
      have hco : wr.cell? ⟨wb.heap.size, k, none⟩ = some (.int .u8 (at0 (fillTo f k) k : Int)) := H.out.2.2.2.1.cell k (by rw [fill_length]; exact c)
      have hzo : wr.frozen? ⟨wb.heap.size, k, none⟩ = false := H.out.2.2.2.1.frozen k
      generalize at0 B k = n at *
      by_cases n1 : n < 16
      · rw [if_pos n1] at hfk
        have hc1 : wr.cell? ⟨w1.heap.size, n, none⟩ = some (.int .u8 (f k : Int)) := by rw [hfk]; exact H.out.2.1.cell n (by rw [HA.out]; exact n1)
        have n2 : (n : Int) < 16 := by omega
        have HC := hide c
        clear hfk IX HF
        generalize f k = y at *
        go_wp2
        go_roundw
        case rel => exact ⟨k + 1, by go_num, HC.out, by rw [← ST.out]; exact H.out.put k y (by have := HZ.out; omega) (by have := HG1.out; omega) (by have := HG2.out; omega) (by have := HG1.out; omega) (by have := HZ.out; omega)⟩
        case measure => simp [intOf]; omega
      · rw [if_neg n1] at hfk
        have n2 : ¬ (n : Int) < 16 := by omega
        have SM := hide (fill_same hfk)
        have HC := hide c
        clear hfk IX HF n1
        go_wp2
        go_roundw
        case rel => exact ⟨k + 1, by go_num, HC.out, by rw [SM.out]; exact H.out⟩
        case measure => simp [intOf]; omega
    · have c0 : k = 16 := by omega
      subst c0
      have IF := hide (info16' (fill_length f 16))
      clear IX HF
      go_wp2_with (refine wpList_load_row rfl 34 _ rfl (wb.heap.size) rfl 34 (cellsB (fillTo f 16)) (0, 0) _ H.out.2.2.2.1 under16 rfl IF.out ?_)
      refine (CO.out _).mono ?_
      rintro e w3 ⟨rfl, hb⟩
      have H2 := hide (H.out.later hb)
      have z := H2.out.1
      have r0 : w3.cell? ⟨W.heap.size + 1 + 1, 0, none⟩ = some (.int .u64 0) := z.c0
      have r1 : w3.cell? ⟨W.heap.size + 1 + 1, 1, none⟩ = some (.int .u64 0) := z.c1
      have z0 : w3.frozen? ⟨W.heap.size + 1 + 1, 0, none⟩ = false := z.frozen 0
      have z1 : w3.frozen? ⟨W.heap.size + 1 + 1, 1, none⟩ = false := z.frozen 1
      clear z
      clear hb H
      go_wp2
      refine bodyPost_ret (v := vecV (p, q)) ((H2.out.1.set2 p q).result (by rfl) _ rfl) rfl ?_
      exact ⟨rfl, (H2.out.2.2.2.2.2.setCell (by simp; omega) _).setCell (by simp; omega) _⟩

theorem lswiz_calls (a b : Nat × Nat) (ha : Vok a) (hb : Vok b) (W : World) :
    Calls Tryd.prog 13 #[vecV a, vecV b] W fun e W' => e = .returned (vecV (swizV a b)) ∧ Below W.heap.size W W' := by
  have CA := fun W => lbytes_calls a ha W
  have CB := fun W => lbytes_calls b hb W
  have CO := fun W => lofBytes_calls (swizL (listN a 8) (listN b 8)) (list16f_length _) (swiz_lanes (list_lanes a 8) (listN b 8)) W
  have hA := listN_length a 8
  have hB := listN_length b 8
  have e : swizL (listN a 8) (listN b 8) = fillTo (fun i => if at0 (listN b 8) i < 16 then at0 (listN a 8) (at0 (listN b 8) i) else 0) 16 := by rw [fill_all]; rfl
  unfold swizV
  obtain ⟨⟨p, q⟩, hF⟩ : ∃ F, vecN 8 (swizL (listN a 8) (listN b 8)) = F := ⟨_, rfl⟩
  rw [hF] at CO ⊢
  rw [e] at CO
  obtain ⟨a0, a1⟩ := a
  obtain ⟨b0, b1⟩ := b
  clear hF e
  generalize listN (a0, a1) 8 = A at *
  generalize listN (b0, b1) 8 = B at *
  unfold arrV at CA CB CO
  exact lswiz_walk a0 a1 b0 b1 p q A B hA hB _ (fun i => rfl) (hide CA) (hide CB) (hide CO) W
end Go.Proofs.YtdhanapmknlobabDoor
