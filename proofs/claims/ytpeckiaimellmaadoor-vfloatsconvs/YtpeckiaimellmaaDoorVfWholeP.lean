/-
  The law VfloatsWhole: its walk over contracts, and what it asks.
-/
import Derived.Test.YtpeckiaimellmaaDoorVfLawsP
import Derived.Test.YtpeckiaimellmaaDoorVinWidP
set_option linter.unusedVariables false
set_option linter.unusedSimpArgs false
namespace Go.Proofs.YtpeckiaimellmaaDoor
open Go.RowKit Lan

set_option maxHeartbeats 8000000 in
theorem vfwhole_walk (T : World → Prop) (TL : Hide (∀ W W' : World, T W → Below W.heap.size W W' → T W')) (s : Bool) (a0 a1 p q : Nat) (fx fy : Nat → Nat)
    (C0 : Hide (∀ W : World, T W → Calls Tryd.prog 18 #[.int .i64 64, .bool s, vecV (a0, a1)] W fun e W' => e = .returned (vecE ((p, q), 0)) ∧ Below W.heap.size W W'))
    (C1 : Hide (∀ W : World, T W → Calls Tryd.prog 16 #[.int .i64 64, .bool s, vecV (p, q)] W fun e W' => e = .returned (vecE ((a0, 0), 0)) ∧ Below W.heap.size W W'))
    (CX : Hide (∀ k : Nat, k < 2 → ∀ W : World, T W → Calls Tryd.prog 24 #[vecV (a0, a1), .int .i64 32, .int .i64 (k : Int)] W fun e W' => e = .returned (.tuple #[.int .u64 (fx k : Int), .int .i64 0]) ∧ Below W.heap.size W W'))
    (CY : Hide (∀ k : Nat, k < 2 → ∀ W : World, T W → Calls Tryd.prog 24 #[vecV (p, q), .int .i64 64, .int .i64 (k : Int)] W fun e W' => e = .returned (.tuple #[.int .u64 (fy k : Int), .int .i64 0]) ∧ Below W.heap.size W W'))
    (CF : Hide (∀ k : Nat, k < 2 → ∀ W : World, Calls Tryd.prog 25 #[.int .i64 32, .int .i64 64, .bool s, .int .u64 (fx k : Int)] W fun e W' => e = .returned (.tuple #[.int .u64 (fy k : Int), .int .i64 0]) ∧ W' = W))
    (CW : Hide (∀ W : World, T W → Calls Tryd.prog 11 #[] W fun e W' => e = .returned (.bool true) ∧ Below W.heap.size W W'))
    (W : World) (HT : Hide (T W)) :
    Calls Tryd.prog 8 #[.bool s, vecV (a0, a1)] W fun e W' => e = .returned (.bool true) ∧ Below W.heap.size W W' := by
  obtain ⟨wa, hwa⟩ : ∃ wa, W.alloc (.cells #[.int .u64 (a0 : Int), .int .u64 (a1 : Int)] 25) = wa := ⟨_, rfl⟩
  have FA : Hide (VBlk wa W.heap.size (a0, a1)) := hide (by rw [← hwa]; exact alloc_at rfl)
  have B : Hide (Below W.heap.size W wa) := hide (by rw [← hwa]; exact (Below.refl _ _).alloc (Nat.le_refl _) _)
  have HU := hide hwa
  have ga0 := FA.out.c0
  have ga1 := FA.out.c1
  simp only at ga0 ga1
  clear hwa
  unfold vecE at C0 C1
  unfold vecV at C0 C1 CX CY ⊢
  simp only at C0 C1 CX CY ⊢
  go_enter Tryd.func8, Tryd.ntmps8
  go_wp2_with fail
  rw [HU.out]
  refine (C0.out _ (TL.out _ _ HT.out B.out)).mono ?_
  rintro e w0 ⟨rfl, hb⟩
  obtain ⟨u0, hu⟩ : ∃ u, w0.alloc (.cells #[.int .u64 (p : Int), .int .u64 (q : Int)] 25) = u := ⟨_, rfl⟩
  replace FA := hide (show VBlk u0 _ _ by rw [← hu]; exact alloc_past (FA.out.later hb FA.out.lt))
  have X0 : Hide (VBlk u0 w0.heap.size (p, q)) := hide (by rw [← hu]; exact alloc_at rfl)
  replace B := hide (show Below W.heap.size W u0 by rw [← hu]; exact (B.out.trans (hb.mono B.out.size)).alloc (Nat.le_trans B.out.size hb.size) _)
  replace HU := hide hu
  clear hb hu ga0 ga1
  go_wp2_with fail
  rw [HU.out]
  refine (C1.out _ (TL.out _ _ HT.out B.out)).mono ?_
  rintro e w1 ⟨rfl, hb⟩
  obtain ⟨u1, hu⟩ : ∃ u, w1.alloc (.cells #[.int .u64 (a0 : Int), .int .u64 0] 25) = u := ⟨_, rfl⟩
  replace FA := hide (show VBlk u1 _ _ by rw [← hu]; exact alloc_past (FA.out.later hb FA.out.lt))
  replace X0 := hide (show VBlk u1 _ _ by rw [← hu]; exact alloc_past (X0.out.later hb X0.out.lt))
  have X1 : Hide (VBlk u1 w1.heap.size (a0, 0)) := hide (by rw [← hu]; exact alloc_at rfl)
  replace B := hide (show Below W.heap.size W u1 by rw [← hu]; exact (B.out.trans (hb.mono B.out.size)).alloc (Nat.le_trans B.out.size hb.size) _)
  replace HU := hide hu
  clear hb hu
  go_wp2_with fail
  rw [HU.out]
  go_loopw [9] (fun x wr => ∃ k : Nat, x = .int .i64 (k : Int) ∧ k ≤ 2 ∧ Below u1.heap.size u1 wr) (fun x _ => 2 - (intOf x).toNat)
  case atStart => exact ⟨0, rfl, by omega, Below.refl _ _⟩
  case round =>
    obtain ⟨k, rfl, hk, hr⟩ := hrel
    have HBR := hide hr
    have GA := FA.out.later hr FA.out.lt
    have GX := X0.out.later hr X0.out.lt
    have B2 := hide (B.out.trans (hr.mono B.out.size))
    clear hr
    by_cases c0 : k < 2
    · have c1 : (k : Int) < 2 := by omega
      have ga0 := GA.c0
      have ga1 := GA.c1
      simp only at ga0 ga1
      have D0 := hide (CX.out k c0 wr (TL.out _ _ HT.out B2.out))
      have D1 := hide (CY.out k c0)
      have D2 := hide (CF.out k c0)
      have HC := hide c0
      clear GA GX
      generalize fx k = x at *
      generalize fy k = y at *
      go_wp2_with fail
      refine D0.out.mono ?_
      rintro e w2 ⟨rfl, hb⟩
      have HB3 := hide (HBR.out.trans (hb.mono HBR.out.size))
      have B3 := hide (B2.out.trans (hb.mono B2.out.size))
      have gx0 := (X0.out.later HB3.out X0.out.lt).c0
      have gx1 := (X0.out.later HB3.out X0.out.lt).c1
      simp only at gx0 gx1
      clear hb ga0 ga1 D0 HBR B2
      go_wp2_with fail
      refine (D1.out _ (TL.out _ _ HT.out B3.out)).mono ?_
      rintro e w3 ⟨rfl, hb⟩
      have HB4 := hide (HB3.out.trans (hb.mono HB3.out.size))
      clear hb gx0 gx1 D1 HB3 B3
      go_wp2_with ((with_reducible refine (D2.out _).mono ?_); rintro e w4 ⟨rfl, rfl⟩)
      go_roundw
      case rel => exact ⟨k + 1, by go_num, HC.out, HB4.out⟩
      case measure => have := HC.out; simp [intOf]; omega
    · obtain rfl : k = 2 := by omega
      have g10 := (X1.out.later HBR.out X1.out.lt).c0
      have g11 := (X1.out.later HBR.out X1.out.lt).c1
      have ga0 := GA.c0
      simp only at g10 g11 ga0
      clear GA GX c0
      go_wp2_with fail
      refine (CW.out _ (TL.out _ _ HT.out B2.out)).mono ?_
      rintro e wz ⟨rfl, hb⟩
      have B5 := hide (B2.out.trans (hb.mono B2.out.size))
      clear hb g10 g11 ga0
      go_wp2
      go_ret
      exact ⟨rfl, B5.out⟩

/-- A whole number of 32 bits that is made a float of 64, and cut. -/
theorem whole32 (s : Bool) (n : Nat) (hn : n < 2 ^ 32) : F.C.cutN 64 32 s (F.C.fltN 32 64 s n) = (n, true) := by
  have hm : F.C.magOf 32 s n ≤ 2 ^ 52 := by
    unfold F.C.magOf
    split <;> omega
  obtain ⟨f1, f2⟩ := F.C.flt_exact (fr := 32) (m := F.C.magOf 32 s n) (ng := F.C.negOf 32 s n) hm
  have e : F.C.fltN 32 64 s n = Ieee.double.word (F.C.negOf 32 s n) (Flo.rungOf Ieee.double (F.C.magOf 32 s n) 0) := rfl
  rw [e]
  unfold F.C.cutN
  rw [f2, if_neg (by decide)]
  unfold F.worthN
  rw [if_neg (by decide), f1]
  unfold F.C.magOf F.C.negOf F.C.holdV
  cases s with
  | false =>
    simp only [Bool.false_and, Bool.false_eq_true, if_false, Flo.sgn]
    rw [if_neg (by show ¬ (n : Int) < 0; omega), if_neg (by show ¬ (4294967296 : Int) ≤ n; omega)]
    congr 1
    show ((n : Int) % 4294967296).toNat = n
    omega
  | true =>
    simp only [Bool.true_and]
    by_cases c : 2 ^ (32 - 1) ≤ n
    · have c' : 2147483648 ≤ n := c
      rw [decide_eq_true c]
      simp only [if_true, Flo.sgn]
      rw [if_neg (by show ¬ (-((2 ^ 32 - n : Nat) : Int)) < -2147483648; omega), if_neg (by show ¬ (2147483648 : Int) ≤ -((2 ^ 32 - n : Nat) : Int); omega)]
      congr 1
      show ((-((2 ^ 32 - n : Nat) : Int)) % 4294967296).toNat = n
      omega
    · have c' : ¬ 2147483648 ≤ n := c
      rw [decide_eq_false c]
      simp only [Bool.false_eq_true, if_false, Flo.sgn]
      rw [if_neg (by show ¬ (n : Int) < -2147483648; omega), if_neg (by show ¬ (2147483648 : Int) ≤ n; omega)]
      congr 1
      show ((n : Int) % 4294967296).toNat = n
      omega

theorem low_half (a : Nat × Nat) (ha : Vok a) (f : Nat → Nat) (h0 : f 0 = laneN a 32 0) (h1 : f 1 = laneN a 32 1) : vecN 32 (mixC 4 f (fun _ => 0) 2) = (a.1, 0) := by
  have hv : Vok (a.1, 0) := ⟨ha.1, show (0 : Nat) < 2 ^ 64 by decide⟩
  have e : mixC 4 f (fun _ => 0) 2 = listN (a.1, 0) 32 := by
    show [f 0, f 1, 0, 0] = [laneN (a.1, 0) 32 0, laneN (a.1, 0) 32 1, laneN (a.1, 0) 32 2, laneN (a.1, 0) 32 3]
    have e0 : laneN (a.1, 0) 32 0 = laneN a 32 0 := by unfold laneN; simp
    have e1 : laneN (a.1, 0) 32 1 = laneN a 32 1 := by unfold laneN; simp
    have e2 : laneN (a.1, 0) 32 2 = 0 := by unfold laneN; simp
    have e3 : laneN (a.1, 0) 32 3 = 0 := by unfold laneN; simp
    rw [h0, h1, e0, e1, e2, e3]
  rw [e]
  exact vec_list (.inr (.inr (.inl rfl))) hv

theorem vfloatsWhole_law {T : World → Prop} (TL : TabsLike T) (h2 : FTwoOK T) (hh : FHeldOK T) (hf : FFltOK T) (s : Bool) (a : Nat × Nat) (ha : Vok a) (W : World) (hT : T W) :
    Calls Tryd.prog 8 #[.bool s, vecV a] W fun e W' => e = .returned (.bool true) ∧ Below W.heap.size W W' := by
  have w32 : IsW 32 := .inr (.inr (.inl rfl))
  have w64 : IsW 64 := .inr (.inr (.inr rfl))
  have hl : ∀ i, i < 128 / 64 → vffN 64 s a i < 2 ^ 64 := fun i _ => F.C.flt_lt (.inr rfl) _ _ _
  have hv : Vok (vlanes 64 (vffN 64 s a)) := vlanes_ok w64 hl
  have la := fun i hi => lane_at w64 hl i hi
  have e2 : vfh 64 s (vlanes 64 (vffN 64 s a)) = ((a.1, 0), 0) := by
    have x : ∀ i, i < 2 → vfhN 64 s (vlanes 64 (vffN 64 s a)) i = laneN a 32 i := fun i hi => by
      unfold vfhN
      rw [la i hi]
      unfold vffN
      rw [whole32 s _ (laneN_lt a 32 i)]
    show (vecN 32 (mixC 4 (vfhN 64 s (vlanes 64 (vffN 64 s a))) (fun _ => 0) 2), (0 : Int)) = _
    rw [low_half a ha _ (x 0 (by decide)) (x 1 (by decide))]
  have C0 : ∀ W, T W → Calls Tryd.prog 18 #[.int .i64 64, .bool s, vecV a] W fun e W' => e = .returned (vecE (vlanes 64 (vffN 64 s a), 0)) ∧ Below W.heap.size W W' := fun W hT => hf 64 s a ha W hT
  have C1 := fun W hT => hh 64 s (vlanes 64 (vffN 64 s a)) hv W hT
  rw [e2] at C1
  have CX := fun (k : Nat) (hk : k < 2) W (hT : T W) => get_at (w := 32) (m := k) w32 (by omega) a ha W (TL.widths W hT)
  have CY := fun (k : Nat) (hk : k < 2) W (hT : T W) => get_at (w := 64) (m := k) w64 (by omega) (vlanes 64 (vffN 64 s a)) hv W (TL.widths W hT)
  have CF : ∀ k : Nat, k < 2 → ∀ W : World, Calls Tryd.prog 25 #[.int .i64 32, .int .i64 64, .bool s, .int .u64 (laneN a 32 k : Int)] W fun e W' => e = .returned (.tuple #[.int .u64 (laneN (vlanes 64 (vffN 64 s a)) 64 k : Int), .int .i64 0]) ∧ W' = W := fun k hk W => by
    have := F.C.Float_calls 32 64 s (laneN a 32 k) (Nat.lt_of_lt_of_le (laneN_lt a 32 k) (by decide)) W
    rw [show (32 : Int) = ((32 : Nat) : Int) from rfl, show (64 : Int) = ((64 : Nat) : Int) from rfl, F.C.fltF_of (.inl rfl) (.inr rfl) (laneN_lt a 32 k)] at this
    rw [la k hk]
    exact this
  generalize vlanes 64 (vffN 64 s a) = V at C0 C1 CX CY CF
  obtain ⟨p, q⟩ := V
  obtain ⟨a0, a1⟩ := a
  exact vfwhole_walk T (hide TL.later) s a0 a1 p q (laneN (a0, a1) 32) (laneN (p, q) 64) (hide C0) (hide C1) (hide CX) (hide CY) (hide CF) (hide fun W hT => vfworks TL h2 W hT) W (hide hT)
end Go.Proofs.YtpeckiaimellmaaDoor
