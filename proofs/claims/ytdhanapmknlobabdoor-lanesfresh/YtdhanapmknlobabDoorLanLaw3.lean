/-
  The laws' width; the walk of LanesSet.
-/
import Derived.Test.YtdhanapmknlobabDoorLanWorks
import Derived.Test.YtdhanapmknlobabDoorLanGet
set_option linter.unusedVariables false
set_option linter.unusedSimpArgs false
namespace Go.Proofs.YtdhanapmknlobabDoor
open Go.RowKit Lan

/-- The laws' width. -/
def lwd (n : Nat) : Nat := if n % 4 = 0 then 8 else if n % 4 = 1 then 16 else if n % 4 = 2 then 32 else 64
theorem lwd_ok (n : Nat) : IsW (lwd n) := by
  unfold lwd IsW
  split
  · exact .inl rfl
  · split
    · exact .inr (.inl rfl)
    · split
      · exact .inr (.inr (.inl rfl))
      · exact .inr (.inr (.inr rfl))

set_option maxRecDepth 100000 in
set_option maxHeartbeats 1000000 in
theorem wid_calls (n : Nat) (W : World) :
    Calls Tryd.prog 7 #[.int .u8 (n : Int)] W fun e W' => e = .returned (.int .i64 (lwd n : Int)) ∧ W' = W := by
  have E : (n : Int).tmod 4 = ((n % 4 : Nat) : Int) := (Int.ofNat_tmod n 4).symm
  unfold lwd
  rcases (show n % 4 = 0 ∨ n % 4 = 1 ∨ n % 4 = 2 ∨ n % 4 = 3 by omega) with h | h | h | h
  all_goals
    rw [h] at E ⊢
    simp only [show ((0 : Nat) : Int) = 0 from rfl, show ((1 : Nat) : Int) = 1 from rfl, show ((2 : Nat) : Int) = 2 from rfl, show ((3 : Nat) : Int) = 3 from rfl] at E
    clear h
    go_enter Tryd.func7, Tryd.ntmps7
    go_wp2
    go_ret
    exact ⟨rfl, rfl⟩

set_option maxHeartbeats 4000000 in
theorem set_out8 (n : Nat) (v0 v1 : Nat) (i : Int) (x : Nat) (h : i < 0 ∨ (0 ≤ i ∧ 16 ≤ i))
    (CW : Hide (∀ W : World, Calls Tryd.prog 7 #[.int .u8 (n : Int)] W fun e W' => e = .returned (.int .i64 8) ∧ W' = W))
    (y : Nat) (E1 : bits .and .u64 (x : Int) 255 = (y : Int)) (E2 : bits .and .u64 (x : Int) (18446744073709551615 / 2 ^ 56) = (y : Int))
    (W : World) (HT : Hide (WTabs W)) :
    Calls Tryd.prog 3 #[vecV (v0, v1), .int .u8 (n : Int), .int .i64 i, .int .u64 (x : Int)] W fun e W' => e = .returned (.bool true) ∧ Below W.heap.size W W' := by
  have HB : Hide (Below W.heap.size W (W.alloc (.cells #[.int .u64 (v0 : Int), .int .u64 (v1 : Int)] 24))) := hide (below_two _ _)
  unfold vecV
  simp only
  rcases h with h | ⟨h1, h2⟩
  · have d1 : decide (i < 0) = true := by simpa using h
    go_enter Tryd.func3, Tryd.ntmps3
    go_wp2_with ((with_reducible refine (CW.out _).mono ?_); rintro e w1 ⟨rfl, rfl⟩)
    refine (works_calls _ (HT.out.later HB.out)).mono ?_
    rintro e w5 ⟨rfl, hb⟩
    have B5 := hide (HB.out.trans (hb.mono HB.out.size))
    clear hb
    go_wp2
    go_ret
    exact ⟨rfl, B5.out⟩
  · have d1 : decide (i < 0) = false := by simpa using h1
    have d2 : decide (16 ≤ i) = true := by simpa using h2
    have d3 : decide (i ≥ 16) = true := by simpa using h2
    go_enter Tryd.func3, Tryd.ntmps3
    go_wp2_with ((with_reducible refine (CW.out _).mono ?_); rintro e w1 ⟨rfl, rfl⟩)
    refine (works_calls _ (HT.out.later HB.out)).mono ?_
    rintro e w5 ⟨rfl, hb⟩
    have B5 := hide (HB.out.trans (hb.mono HB.out.size))
    clear hb
    go_wp2
    go_ret
    exact ⟨rfl, B5.out⟩

set_option maxHeartbeats 4000000 in
theorem set_in8 (n : Nat) (v0 v1 u0 u1 : Nat) (i : Nat) (x y : Nat) (f : Nat → Nat) (hi : i < 16)
    (CW : Hide (∀ W : World, Calls Tryd.prog 7 #[.int .u8 (n : Int)] W fun e W' => e = .returned (.int .i64 8) ∧ W' = W))
    (E1 : bits .and .u64 (x : Int) 255 = (y : Int)) (E2 : bits .and .u64 (x : Int) (18446744073709551615 / 2 ^ 56) = (y : Int))
    (CS : Hide (∀ W : World, WTabs W → Calls Tryd.prog 9 #[vecV (v0, v1), .int .i64 8, .int .i64 (i : Int), .int .u64 (y : Int)] W fun e W' => e = .returned (vecE ((u0, u1), 0)) ∧ Below W.heap.size W W'))
    (CG : Hide (∀ k : Nat, k < 16 → ∀ W : World, WTabs W → Calls Tryd.prog 10 #[vecV (v0, v1), .int .i64 8, .int .i64 (k : Int)] W fun e W' => e = .returned (pairV ((f k : Int), 0)) ∧ Below W.heap.size W W'))
    (CH : Hide (∀ k : Nat, k < 16 → ∀ W : World, WTabs W → Calls Tryd.prog 10 #[vecV (u0, u1), .int .i64 8, .int .i64 (k : Int)] W fun e W' => e = .returned (pairV (((if k = i then y else f k : Nat) : Int), 0)) ∧ Below W.heap.size W W'))
    (W : World) (HT : Hide (WTabs W)) :
    Calls Tryd.prog 3 #[vecV (v0, v1), .int .u8 (n : Int), .int .i64 (i : Int), .int .u64 (x : Int)] W fun e W' => e = .returned (.bool true) ∧ Below W.heap.size W W' := by
  have HB : Hide (Below W.heap.size W (W.alloc (.cells #[.int .u64 (v0 : Int), .int .u64 (v1 : Int)] 24))) := hide (below_two _ _)
  have VB : Hide (VBlk (W.alloc (.cells #[.int .u64 (v0 : Int), .int .u64 (v1 : Int)] 24)) W.heap.size (v0, v1)) := hide (alloc_at rfl)
  unfold vecE at CS
  unfold pairV at CG CH
  unfold vecV at CS CG CH ⊢
  simp only at CS CG CH ⊢
  have c1 : (i : Int) < 16 := by omega
  have d1 : decide ((i : Int) < 0) = false := by simp
  have d3 : decide ((i : Int) ≥ 16) = false := by simp; omega
  have HI := hide hi
  clear hi
  go_enter Tryd.func3, Tryd.ntmps3
  go_wp2_with ((with_reducible refine (CW.out _).mono ?_); rintro e w1 ⟨rfl, rfl⟩)
  refine (CS.out _ (HT.out.later HB.out)).mono ?_
  rintro e w2 ⟨rfl, hb⟩
  have B2 := hide (HB.out.trans (hb.mono HB.out.size))
  have V2 := hide (VB.out.later hb VB.out.lt)
  clear hb
  go_wp2_with fail
  go_loopw [12] (fun k wr => ∃ j : Nat, k = .int .i64 (j : Int) ∧ j ≤ 16 ∧ VBlk wr W.heap.size (v0, v1) ∧ VBlk wr w2.heap.size (u0, u1) ∧ Below W.heap.size W wr) (fun k _ => 16 - (intOf k).toNat)
  case atStart => exact ⟨0, rfl, by omega, alloc_past V2.out, alloc_at rfl, B2.out.alloc B2.out.size _⟩
  case round =>
    obtain ⟨k, rfl, hk, a1, a2, a3⟩ := hrel
    by_cases c : k < 16
    · have c2 : (k : Int) < 16 := by omega
      have G := hide (CG.out k c)
      have H := hide (CH.out k c)
      have h0 := a1.c0
      have h1 := a1.c1
      simp only at h0 h1
      have A1 := hide a1
      have A2 := hide a2
      have A3 := hide a3
      have HK := hide c
      clear a1 a2 a3 CG CH CS E1 E2
      generalize f k = z at *
      by_cases e : k = i
      · rw [if_pos e] at H
        subst e
        clear c
        go_wp2_with fail
        refine (G.out _ (HT.out.later A3.out)).mono ?_
        rintro e w3 ⟨rfl, hb⟩
        replace A1 := hide (A1.out.later hb A1.out.lt)
        replace A2 := hide (A2.out.later hb A2.out.lt)
        replace A3 := hide (A3.out.trans (hb.mono A3.out.size))
        clear hb h0 h1
        have h0 := A2.out.c0
        have h1 := A2.out.c1
        simp only at h0 h1
        go_wp2_with fail
        refine (H.out _ (HT.out.later A3.out)).mono ?_
        rintro e w4 ⟨rfl, hb⟩
        replace A1 := hide (A1.out.later hb A1.out.lt)
        replace A2 := hide (A2.out.later hb A2.out.lt)
        replace A3 := hide (A3.out.trans (hb.mono A3.out.size))
        clear hb h0 h1
        go_wp2
        go_roundw
        case rel => exact ⟨k + 1, by go_num, HK.out, A1.out, A2.out, A3.out⟩
        case measure => have := HK.out; simp [intOf]; omega
      · rw [if_neg e] at H
        have e1 : ((k : Int) == (i : Int)) = false := by simp; omega
        have e2 : ((k : Int) != (i : Int)) = true := by simp; omega
        clear c e
        go_wp2_with fail
        refine (G.out _ (HT.out.later A3.out)).mono ?_
        rintro e w3 ⟨rfl, hb⟩
        replace A1 := hide (A1.out.later hb A1.out.lt)
        replace A2 := hide (A2.out.later hb A2.out.lt)
        replace A3 := hide (A3.out.trans (hb.mono A3.out.size))
        clear hb h0 h1
        have h0 := A2.out.c0
        have h1 := A2.out.c1
        simp only at h0 h1
        go_wp2_with fail
        refine (H.out _ (HT.out.later A3.out)).mono ?_
        rintro e w4 ⟨rfl, hb⟩
        replace A1 := hide (A1.out.later hb A1.out.lt)
        replace A2 := hide (A2.out.later hb A2.out.lt)
        replace A3 := hide (A3.out.trans (hb.mono A3.out.size))
        clear hb h0 h1
        go_wp2
        go_roundw
        case rel => exact ⟨k + 1, by go_num, HK.out, A1.out, A2.out, A3.out⟩
        case measure => have := HK.out; simp [intOf]; omega
    · obtain rfl : k = 16 := by omega
      have A3 := hide a3
      clear a1 a2 a3 CG CH CS E1 E2
      go_wp2_with fail
      refine (works_calls _ (HT.out.later A3.out)).mono ?_
      rintro e w5 ⟨rfl, hb⟩
      have B5 := hide (A3.out.trans (hb.mono A3.out.size))
      clear hb
      go_wp2
      go_ret
      exact ⟨rfl, B5.out⟩

set_option maxHeartbeats 4000000 in
theorem set_out16 (n : Nat) (v0 v1 : Nat) (i : Int) (x : Nat) (h : i < 0 ∨ (0 ≤ i ∧ 8 ≤ i))
    (CW : Hide (∀ W : World, Calls Tryd.prog 7 #[.int .u8 (n : Int)] W fun e W' => e = .returned (.int .i64 16) ∧ W' = W))
    (y : Nat) (E1 : bits .and .u64 (x : Int) 65535 = (y : Int)) (E2 : bits .and .u64 (x : Int) (18446744073709551615 / 2 ^ 48) = (y : Int))
    (W : World) (HT : Hide (WTabs W)) :
    Calls Tryd.prog 3 #[vecV (v0, v1), .int .u8 (n : Int), .int .i64 i, .int .u64 (x : Int)] W fun e W' => e = .returned (.bool true) ∧ Below W.heap.size W W' := by
  have HB : Hide (Below W.heap.size W (W.alloc (.cells #[.int .u64 (v0 : Int), .int .u64 (v1 : Int)] 24))) := hide (below_two _ _)
  unfold vecV
  simp only
  rcases h with h | ⟨h1, h2⟩
  · have d1 : decide (i < 0) = true := by simpa using h
    go_enter Tryd.func3, Tryd.ntmps3
    go_wp2_with ((with_reducible refine (CW.out _).mono ?_); rintro e w1 ⟨rfl, rfl⟩)
    refine (works_calls _ (HT.out.later HB.out)).mono ?_
    rintro e w5 ⟨rfl, hb⟩
    have B5 := hide (HB.out.trans (hb.mono HB.out.size))
    clear hb
    go_wp2
    go_ret
    exact ⟨rfl, B5.out⟩
  · have d1 : decide (i < 0) = false := by simpa using h1
    have d2 : decide (8 ≤ i) = true := by simpa using h2
    have d3 : decide (i ≥ 8) = true := by simpa using h2
    go_enter Tryd.func3, Tryd.ntmps3
    go_wp2_with ((with_reducible refine (CW.out _).mono ?_); rintro e w1 ⟨rfl, rfl⟩)
    refine (works_calls _ (HT.out.later HB.out)).mono ?_
    rintro e w5 ⟨rfl, hb⟩
    have B5 := hide (HB.out.trans (hb.mono HB.out.size))
    clear hb
    go_wp2
    go_ret
    exact ⟨rfl, B5.out⟩

set_option maxHeartbeats 4000000 in
theorem set_in16 (n : Nat) (v0 v1 u0 u1 : Nat) (i : Nat) (x y : Nat) (f : Nat → Nat) (hi : i < 8)
    (CW : Hide (∀ W : World, Calls Tryd.prog 7 #[.int .u8 (n : Int)] W fun e W' => e = .returned (.int .i64 16) ∧ W' = W))
    (E1 : bits .and .u64 (x : Int) 65535 = (y : Int)) (E2 : bits .and .u64 (x : Int) (18446744073709551615 / 2 ^ 48) = (y : Int))
    (CS : Hide (∀ W : World, WTabs W → Calls Tryd.prog 9 #[vecV (v0, v1), .int .i64 16, .int .i64 (i : Int), .int .u64 (y : Int)] W fun e W' => e = .returned (vecE ((u0, u1), 0)) ∧ Below W.heap.size W W'))
    (CG : Hide (∀ k : Nat, k < 8 → ∀ W : World, WTabs W → Calls Tryd.prog 10 #[vecV (v0, v1), .int .i64 16, .int .i64 (k : Int)] W fun e W' => e = .returned (pairV ((f k : Int), 0)) ∧ Below W.heap.size W W'))
    (CH : Hide (∀ k : Nat, k < 8 → ∀ W : World, WTabs W → Calls Tryd.prog 10 #[vecV (u0, u1), .int .i64 16, .int .i64 (k : Int)] W fun e W' => e = .returned (pairV (((if k = i then y else f k : Nat) : Int), 0)) ∧ Below W.heap.size W W'))
    (W : World) (HT : Hide (WTabs W)) :
    Calls Tryd.prog 3 #[vecV (v0, v1), .int .u8 (n : Int), .int .i64 (i : Int), .int .u64 (x : Int)] W fun e W' => e = .returned (.bool true) ∧ Below W.heap.size W W' := by
  have HB : Hide (Below W.heap.size W (W.alloc (.cells #[.int .u64 (v0 : Int), .int .u64 (v1 : Int)] 24))) := hide (below_two _ _)
  have VB : Hide (VBlk (W.alloc (.cells #[.int .u64 (v0 : Int), .int .u64 (v1 : Int)] 24)) W.heap.size (v0, v1)) := hide (alloc_at rfl)
  unfold vecE at CS
  unfold pairV at CG CH
  unfold vecV at CS CG CH ⊢
  simp only at CS CG CH ⊢
  have c1 : (i : Int) < 8 := by omega
  have d1 : decide ((i : Int) < 0) = false := by simp
  have d3 : decide ((i : Int) ≥ 8) = false := by simp; omega
  have HI := hide hi
  clear hi
  go_enter Tryd.func3, Tryd.ntmps3
  go_wp2_with ((with_reducible refine (CW.out _).mono ?_); rintro e w1 ⟨rfl, rfl⟩)
  refine (CS.out _ (HT.out.later HB.out)).mono ?_
  rintro e w2 ⟨rfl, hb⟩
  have B2 := hide (HB.out.trans (hb.mono HB.out.size))
  have V2 := hide (VB.out.later hb VB.out.lt)
  clear hb
  go_wp2_with fail
  go_loopw [12] (fun k wr => ∃ j : Nat, k = .int .i64 (j : Int) ∧ j ≤ 8 ∧ VBlk wr W.heap.size (v0, v1) ∧ VBlk wr w2.heap.size (u0, u1) ∧ Below W.heap.size W wr) (fun k _ => 8 - (intOf k).toNat)
  case atStart => exact ⟨0, rfl, by omega, alloc_past V2.out, alloc_at rfl, B2.out.alloc B2.out.size _⟩
  case round =>
    obtain ⟨k, rfl, hk, a1, a2, a3⟩ := hrel
    by_cases c : k < 8
    · have c2 : (k : Int) < 8 := by omega
      have G := hide (CG.out k c)
      have H := hide (CH.out k c)
      have h0 := a1.c0
      have h1 := a1.c1
      simp only at h0 h1
      have A1 := hide a1
      have A2 := hide a2
      have A3 := hide a3
      have HK := hide c
      clear a1 a2 a3 CG CH CS E1 E2
      generalize f k = z at *
      by_cases e : k = i
      · rw [if_pos e] at H
        subst e
        clear c
        go_wp2_with fail
        refine (G.out _ (HT.out.later A3.out)).mono ?_
        rintro e w3 ⟨rfl, hb⟩
        replace A1 := hide (A1.out.later hb A1.out.lt)
        replace A2 := hide (A2.out.later hb A2.out.lt)
        replace A3 := hide (A3.out.trans (hb.mono A3.out.size))
        clear hb h0 h1
        have h0 := A2.out.c0
        have h1 := A2.out.c1
        simp only at h0 h1
        go_wp2_with fail
        refine (H.out _ (HT.out.later A3.out)).mono ?_
        rintro e w4 ⟨rfl, hb⟩
        replace A1 := hide (A1.out.later hb A1.out.lt)
        replace A2 := hide (A2.out.later hb A2.out.lt)
        replace A3 := hide (A3.out.trans (hb.mono A3.out.size))
        clear hb h0 h1
        go_wp2
        go_roundw
        case rel => exact ⟨k + 1, by go_num, HK.out, A1.out, A2.out, A3.out⟩
        case measure => have := HK.out; simp [intOf]; omega
      · rw [if_neg e] at H
        have e1 : ((k : Int) == (i : Int)) = false := by simp; omega
        have e2 : ((k : Int) != (i : Int)) = true := by simp; omega
        clear c e
        go_wp2_with fail
        refine (G.out _ (HT.out.later A3.out)).mono ?_
        rintro e w3 ⟨rfl, hb⟩
        replace A1 := hide (A1.out.later hb A1.out.lt)
        replace A2 := hide (A2.out.later hb A2.out.lt)
        replace A3 := hide (A3.out.trans (hb.mono A3.out.size))
        clear hb h0 h1
        have h0 := A2.out.c0
        have h1 := A2.out.c1
        simp only at h0 h1
        go_wp2_with fail
        refine (H.out _ (HT.out.later A3.out)).mono ?_
        rintro e w4 ⟨rfl, hb⟩
        replace A1 := hide (A1.out.later hb A1.out.lt)
        replace A2 := hide (A2.out.later hb A2.out.lt)
        replace A3 := hide (A3.out.trans (hb.mono A3.out.size))
        clear hb h0 h1
        go_wp2
        go_roundw
        case rel => exact ⟨k + 1, by go_num, HK.out, A1.out, A2.out, A3.out⟩
        case measure => have := HK.out; simp [intOf]; omega
    · obtain rfl : k = 8 := by omega
      have A3 := hide a3
      clear a1 a2 a3 CG CH CS E1 E2
      go_wp2_with fail
      refine (works_calls _ (HT.out.later A3.out)).mono ?_
      rintro e w5 ⟨rfl, hb⟩
      have B5 := hide (A3.out.trans (hb.mono A3.out.size))
      clear hb
      go_wp2
      go_ret
      exact ⟨rfl, B5.out⟩

set_option maxHeartbeats 4000000 in
theorem set_out32 (n : Nat) (v0 v1 : Nat) (i : Int) (x : Nat) (h : i < 0 ∨ (0 ≤ i ∧ 4 ≤ i))
    (CW : Hide (∀ W : World, Calls Tryd.prog 7 #[.int .u8 (n : Int)] W fun e W' => e = .returned (.int .i64 32) ∧ W' = W))
    (y : Nat) (E1 : bits .and .u64 (x : Int) 4294967295 = (y : Int)) (E2 : bits .and .u64 (x : Int) (18446744073709551615 / 2 ^ 32) = (y : Int))
    (W : World) (HT : Hide (WTabs W)) :
    Calls Tryd.prog 3 #[vecV (v0, v1), .int .u8 (n : Int), .int .i64 i, .int .u64 (x : Int)] W fun e W' => e = .returned (.bool true) ∧ Below W.heap.size W W' := by
  have HB : Hide (Below W.heap.size W (W.alloc (.cells #[.int .u64 (v0 : Int), .int .u64 (v1 : Int)] 24))) := hide (below_two _ _)
  unfold vecV
  simp only
  rcases h with h | ⟨h1, h2⟩
  · have d1 : decide (i < 0) = true := by simpa using h
    go_enter Tryd.func3, Tryd.ntmps3
    go_wp2_with ((with_reducible refine (CW.out _).mono ?_); rintro e w1 ⟨rfl, rfl⟩)
    refine (works_calls _ (HT.out.later HB.out)).mono ?_
    rintro e w5 ⟨rfl, hb⟩
    have B5 := hide (HB.out.trans (hb.mono HB.out.size))
    clear hb
    go_wp2
    go_ret
    exact ⟨rfl, B5.out⟩
  · have d1 : decide (i < 0) = false := by simpa using h1
    have d2 : decide (4 ≤ i) = true := by simpa using h2
    have d3 : decide (i ≥ 4) = true := by simpa using h2
    go_enter Tryd.func3, Tryd.ntmps3
    go_wp2_with ((with_reducible refine (CW.out _).mono ?_); rintro e w1 ⟨rfl, rfl⟩)
    refine (works_calls _ (HT.out.later HB.out)).mono ?_
    rintro e w5 ⟨rfl, hb⟩
    have B5 := hide (HB.out.trans (hb.mono HB.out.size))
    clear hb
    go_wp2
    go_ret
    exact ⟨rfl, B5.out⟩

set_option maxHeartbeats 4000000 in
theorem set_in32 (n : Nat) (v0 v1 u0 u1 : Nat) (i : Nat) (x y : Nat) (f : Nat → Nat) (hi : i < 4)
    (CW : Hide (∀ W : World, Calls Tryd.prog 7 #[.int .u8 (n : Int)] W fun e W' => e = .returned (.int .i64 32) ∧ W' = W))
    (E1 : bits .and .u64 (x : Int) 4294967295 = (y : Int)) (E2 : bits .and .u64 (x : Int) (18446744073709551615 / 2 ^ 32) = (y : Int))
    (CS : Hide (∀ W : World, WTabs W → Calls Tryd.prog 9 #[vecV (v0, v1), .int .i64 32, .int .i64 (i : Int), .int .u64 (y : Int)] W fun e W' => e = .returned (vecE ((u0, u1), 0)) ∧ Below W.heap.size W W'))
    (CG : Hide (∀ k : Nat, k < 4 → ∀ W : World, WTabs W → Calls Tryd.prog 10 #[vecV (v0, v1), .int .i64 32, .int .i64 (k : Int)] W fun e W' => e = .returned (pairV ((f k : Int), 0)) ∧ Below W.heap.size W W'))
    (CH : Hide (∀ k : Nat, k < 4 → ∀ W : World, WTabs W → Calls Tryd.prog 10 #[vecV (u0, u1), .int .i64 32, .int .i64 (k : Int)] W fun e W' => e = .returned (pairV (((if k = i then y else f k : Nat) : Int), 0)) ∧ Below W.heap.size W W'))
    (W : World) (HT : Hide (WTabs W)) :
    Calls Tryd.prog 3 #[vecV (v0, v1), .int .u8 (n : Int), .int .i64 (i : Int), .int .u64 (x : Int)] W fun e W' => e = .returned (.bool true) ∧ Below W.heap.size W W' := by
  have HB : Hide (Below W.heap.size W (W.alloc (.cells #[.int .u64 (v0 : Int), .int .u64 (v1 : Int)] 24))) := hide (below_two _ _)
  have VB : Hide (VBlk (W.alloc (.cells #[.int .u64 (v0 : Int), .int .u64 (v1 : Int)] 24)) W.heap.size (v0, v1)) := hide (alloc_at rfl)
  unfold vecE at CS
  unfold pairV at CG CH
  unfold vecV at CS CG CH ⊢
  simp only at CS CG CH ⊢
  have c1 : (i : Int) < 4 := by omega
  have d1 : decide ((i : Int) < 0) = false := by simp
  have d3 : decide ((i : Int) ≥ 4) = false := by simp; omega
  have HI := hide hi
  clear hi
  go_enter Tryd.func3, Tryd.ntmps3
  go_wp2_with ((with_reducible refine (CW.out _).mono ?_); rintro e w1 ⟨rfl, rfl⟩)
  refine (CS.out _ (HT.out.later HB.out)).mono ?_
  rintro e w2 ⟨rfl, hb⟩
  have B2 := hide (HB.out.trans (hb.mono HB.out.size))
  have V2 := hide (VB.out.later hb VB.out.lt)
  clear hb
  go_wp2_with fail
  go_loopw [12] (fun k wr => ∃ j : Nat, k = .int .i64 (j : Int) ∧ j ≤ 4 ∧ VBlk wr W.heap.size (v0, v1) ∧ VBlk wr w2.heap.size (u0, u1) ∧ Below W.heap.size W wr) (fun k _ => 4 - (intOf k).toNat)
  case atStart => exact ⟨0, rfl, by omega, alloc_past V2.out, alloc_at rfl, B2.out.alloc B2.out.size _⟩
  case round =>
    obtain ⟨k, rfl, hk, a1, a2, a3⟩ := hrel
    by_cases c : k < 4
    · have c2 : (k : Int) < 4 := by omega
      have G := hide (CG.out k c)
      have H := hide (CH.out k c)
      have h0 := a1.c0
      have h1 := a1.c1
      simp only at h0 h1
      have A1 := hide a1
      have A2 := hide a2
      have A3 := hide a3
      have HK := hide c
      clear a1 a2 a3 CG CH CS E1 E2
      generalize f k = z at *
      by_cases e : k = i
      · rw [if_pos e] at H
        subst e
        clear c
        go_wp2_with fail
        refine (G.out _ (HT.out.later A3.out)).mono ?_
        rintro e w3 ⟨rfl, hb⟩
        replace A1 := hide (A1.out.later hb A1.out.lt)
        replace A2 := hide (A2.out.later hb A2.out.lt)
        replace A3 := hide (A3.out.trans (hb.mono A3.out.size))
        clear hb h0 h1
        have h0 := A2.out.c0
        have h1 := A2.out.c1
        simp only at h0 h1
        go_wp2_with fail
        refine (H.out _ (HT.out.later A3.out)).mono ?_
        rintro e w4 ⟨rfl, hb⟩
        replace A1 := hide (A1.out.later hb A1.out.lt)
        replace A2 := hide (A2.out.later hb A2.out.lt)
        replace A3 := hide (A3.out.trans (hb.mono A3.out.size))
        clear hb h0 h1
        go_wp2
        go_roundw
        case rel => exact ⟨k + 1, by go_num, HK.out, A1.out, A2.out, A3.out⟩
        case measure => have := HK.out; simp [intOf]; omega
      · rw [if_neg e] at H
        have e1 : ((k : Int) == (i : Int)) = false := by simp; omega
        have e2 : ((k : Int) != (i : Int)) = true := by simp; omega
        clear c e
        go_wp2_with fail
        refine (G.out _ (HT.out.later A3.out)).mono ?_
        rintro e w3 ⟨rfl, hb⟩
        replace A1 := hide (A1.out.later hb A1.out.lt)
        replace A2 := hide (A2.out.later hb A2.out.lt)
        replace A3 := hide (A3.out.trans (hb.mono A3.out.size))
        clear hb h0 h1
        have h0 := A2.out.c0
        have h1 := A2.out.c1
        simp only at h0 h1
        go_wp2_with fail
        refine (H.out _ (HT.out.later A3.out)).mono ?_
        rintro e w4 ⟨rfl, hb⟩
        replace A1 := hide (A1.out.later hb A1.out.lt)
        replace A2 := hide (A2.out.later hb A2.out.lt)
        replace A3 := hide (A3.out.trans (hb.mono A3.out.size))
        clear hb h0 h1
        go_wp2
        go_roundw
        case rel => exact ⟨k + 1, by go_num, HK.out, A1.out, A2.out, A3.out⟩
        case measure => have := HK.out; simp [intOf]; omega
    · obtain rfl : k = 4 := by omega
      have A3 := hide a3
      clear a1 a2 a3 CG CH CS E1 E2
      go_wp2_with fail
      refine (works_calls _ (HT.out.later A3.out)).mono ?_
      rintro e w5 ⟨rfl, hb⟩
      have B5 := hide (A3.out.trans (hb.mono A3.out.size))
      clear hb
      go_wp2
      go_ret
      exact ⟨rfl, B5.out⟩

set_option maxHeartbeats 4000000 in
theorem set_out64 (n : Nat) (v0 v1 : Nat) (i : Int) (x : Nat) (h : i < 0 ∨ (0 ≤ i ∧ 2 ≤ i))
    (CW : Hide (∀ W : World, Calls Tryd.prog 7 #[.int .u8 (n : Int)] W fun e W' => e = .returned (.int .i64 64) ∧ W' = W))
    (y : Nat) (E1 : bits .and .u64 (x : Int) 18446744073709551615 = (y : Int)) (E2 : bits .and .u64 (x : Int) (18446744073709551615 / 2 ^ 0) = (y : Int))
    (W : World) (HT : Hide (WTabs W)) :
    Calls Tryd.prog 3 #[vecV (v0, v1), .int .u8 (n : Int), .int .i64 i, .int .u64 (x : Int)] W fun e W' => e = .returned (.bool true) ∧ Below W.heap.size W W' := by
  have HB : Hide (Below W.heap.size W (W.alloc (.cells #[.int .u64 (v0 : Int), .int .u64 (v1 : Int)] 24))) := hide (below_two _ _)
  unfold vecV
  simp only
  rcases h with h | ⟨h1, h2⟩
  · have d1 : decide (i < 0) = true := by simpa using h
    go_enter Tryd.func3, Tryd.ntmps3
    go_wp2_with ((with_reducible refine (CW.out _).mono ?_); rintro e w1 ⟨rfl, rfl⟩)
    refine (works_calls _ (HT.out.later HB.out)).mono ?_
    rintro e w5 ⟨rfl, hb⟩
    have B5 := hide (HB.out.trans (hb.mono HB.out.size))
    clear hb
    go_wp2
    go_ret
    exact ⟨rfl, B5.out⟩
  · have d1 : decide (i < 0) = false := by simpa using h1
    have d2 : decide (2 ≤ i) = true := by simpa using h2
    have d3 : decide (i ≥ 2) = true := by simpa using h2
    go_enter Tryd.func3, Tryd.ntmps3
    go_wp2_with ((with_reducible refine (CW.out _).mono ?_); rintro e w1 ⟨rfl, rfl⟩)
    refine (works_calls _ (HT.out.later HB.out)).mono ?_
    rintro e w5 ⟨rfl, hb⟩
    have B5 := hide (HB.out.trans (hb.mono HB.out.size))
    clear hb
    go_wp2
    go_ret
    exact ⟨rfl, B5.out⟩

set_option maxHeartbeats 4000000 in
theorem set_in64 (n : Nat) (v0 v1 u0 u1 : Nat) (i : Nat) (x y : Nat) (f : Nat → Nat) (hi : i < 2)
    (CW : Hide (∀ W : World, Calls Tryd.prog 7 #[.int .u8 (n : Int)] W fun e W' => e = .returned (.int .i64 64) ∧ W' = W))
    (E1 : bits .and .u64 (x : Int) 18446744073709551615 = (y : Int)) (E2 : bits .and .u64 (x : Int) (18446744073709551615 / 2 ^ 0) = (y : Int))
    (CS : Hide (∀ W : World, WTabs W → Calls Tryd.prog 9 #[vecV (v0, v1), .int .i64 64, .int .i64 (i : Int), .int .u64 (y : Int)] W fun e W' => e = .returned (vecE ((u0, u1), 0)) ∧ Below W.heap.size W W'))
    (CG : Hide (∀ k : Nat, k < 2 → ∀ W : World, WTabs W → Calls Tryd.prog 10 #[vecV (v0, v1), .int .i64 64, .int .i64 (k : Int)] W fun e W' => e = .returned (pairV ((f k : Int), 0)) ∧ Below W.heap.size W W'))
    (CH : Hide (∀ k : Nat, k < 2 → ∀ W : World, WTabs W → Calls Tryd.prog 10 #[vecV (u0, u1), .int .i64 64, .int .i64 (k : Int)] W fun e W' => e = .returned (pairV (((if k = i then y else f k : Nat) : Int), 0)) ∧ Below W.heap.size W W'))
    (W : World) (HT : Hide (WTabs W)) :
    Calls Tryd.prog 3 #[vecV (v0, v1), .int .u8 (n : Int), .int .i64 (i : Int), .int .u64 (x : Int)] W fun e W' => e = .returned (.bool true) ∧ Below W.heap.size W W' := by
  have HB : Hide (Below W.heap.size W (W.alloc (.cells #[.int .u64 (v0 : Int), .int .u64 (v1 : Int)] 24))) := hide (below_two _ _)
  have VB : Hide (VBlk (W.alloc (.cells #[.int .u64 (v0 : Int), .int .u64 (v1 : Int)] 24)) W.heap.size (v0, v1)) := hide (alloc_at rfl)
  unfold vecE at CS
  unfold pairV at CG CH
  unfold vecV at CS CG CH ⊢
  simp only at CS CG CH ⊢
  have c1 : (i : Int) < 2 := by omega
  have d1 : decide ((i : Int) < 0) = false := by simp
  have d3 : decide ((i : Int) ≥ 2) = false := by simp; omega
  have HI := hide hi
  clear hi
  go_enter Tryd.func3, Tryd.ntmps3
  go_wp2_with ((with_reducible refine (CW.out _).mono ?_); rintro e w1 ⟨rfl, rfl⟩)
  refine (CS.out _ (HT.out.later HB.out)).mono ?_
  rintro e w2 ⟨rfl, hb⟩
  have B2 := hide (HB.out.trans (hb.mono HB.out.size))
  have V2 := hide (VB.out.later hb VB.out.lt)
  clear hb
  go_wp2_with fail
  go_loopw [12] (fun k wr => ∃ j : Nat, k = .int .i64 (j : Int) ∧ j ≤ 2 ∧ VBlk wr W.heap.size (v0, v1) ∧ VBlk wr w2.heap.size (u0, u1) ∧ Below W.heap.size W wr) (fun k _ => 2 - (intOf k).toNat)
  case atStart => exact ⟨0, rfl, by omega, alloc_past V2.out, alloc_at rfl, B2.out.alloc B2.out.size _⟩
  case round =>
    obtain ⟨k, rfl, hk, a1, a2, a3⟩ := hrel
    by_cases c : k < 2
    · have c2 : (k : Int) < 2 := by omega
      have G := hide (CG.out k c)
      have H := hide (CH.out k c)
      have h0 := a1.c0
      have h1 := a1.c1
      simp only at h0 h1
      have A1 := hide a1
      have A2 := hide a2
      have A3 := hide a3
      have HK := hide c
      clear a1 a2 a3 CG CH CS E1 E2
      generalize f k = z at *
      by_cases e : k = i
      · rw [if_pos e] at H
        subst e
        clear c
        go_wp2_with fail
        refine (G.out _ (HT.out.later A3.out)).mono ?_
        rintro e w3 ⟨rfl, hb⟩
        replace A1 := hide (A1.out.later hb A1.out.lt)
        replace A2 := hide (A2.out.later hb A2.out.lt)
        replace A3 := hide (A3.out.trans (hb.mono A3.out.size))
        clear hb h0 h1
        have h0 := A2.out.c0
        have h1 := A2.out.c1
        simp only at h0 h1
        go_wp2_with fail
        refine (H.out _ (HT.out.later A3.out)).mono ?_
        rintro e w4 ⟨rfl, hb⟩
        replace A1 := hide (A1.out.later hb A1.out.lt)
        replace A2 := hide (A2.out.later hb A2.out.lt)
        replace A3 := hide (A3.out.trans (hb.mono A3.out.size))
        clear hb h0 h1
        go_wp2
        go_roundw
        case rel => exact ⟨k + 1, by go_num, HK.out, A1.out, A2.out, A3.out⟩
        case measure => have := HK.out; simp [intOf]; omega
      · rw [if_neg e] at H
        have e1 : ((k : Int) == (i : Int)) = false := by simp; omega
        have e2 : ((k : Int) != (i : Int)) = true := by simp; omega
        clear c e
        go_wp2_with fail
        refine (G.out _ (HT.out.later A3.out)).mono ?_
        rintro e w3 ⟨rfl, hb⟩
        replace A1 := hide (A1.out.later hb A1.out.lt)
        replace A2 := hide (A2.out.later hb A2.out.lt)
        replace A3 := hide (A3.out.trans (hb.mono A3.out.size))
        clear hb h0 h1
        have h0 := A2.out.c0
        have h1 := A2.out.c1
        simp only at h0 h1
        go_wp2_with fail
        refine (H.out _ (HT.out.later A3.out)).mono ?_
        rintro e w4 ⟨rfl, hb⟩
        replace A1 := hide (A1.out.later hb A1.out.lt)
        replace A2 := hide (A2.out.later hb A2.out.lt)
        replace A3 := hide (A3.out.trans (hb.mono A3.out.size))
        clear hb h0 h1
        go_wp2
        go_roundw
        case rel => exact ⟨k + 1, by go_num, HK.out, A1.out, A2.out, A3.out⟩
        case measure => have := HK.out; simp [intOf]; omega
    · obtain rfl : k = 2 := by omega
      have A3 := hide a3
      clear a1 a2 a3 CG CH CS E1 E2
      go_wp2_with fail
      refine (works_calls _ (HT.out.later A3.out)).mono ?_
      rintro e w5 ⟨rfl, hb⟩
      have B5 := hide (A3.out.trans (hb.mono A3.out.size))
      clear hb
      go_wp2
      go_ret
      exact ⟨rfl, B5.out⟩

theorem cut_and {w x : Nat} (hw : IsW w) (hx : x < 2 ^ 64) : bits .and .u64 (x : Int) ((2 ^ w - 1 : Nat) : Int) = ((x % 2 ^ w : Nat) : Int) := by
  have h : 2 ^ w - 1 < 2 ^ 64 := by rcases hw with rfl | rfl | rfl | rfl <;> decide
  rw [bits_and_u64_nat x _ hx h, Nat.and_two_pow_sub_one_eq_mod]

theorem lanesSet_calls (v : Nat × Nat) (hv : Vok v) (n : Nat) (_ : n < 2 ^ 8) (i : Int) (x : Nat) (hx : x < 2 ^ 64) (W : World) (hT : WTabs W) :
    Calls Tryd.prog 3 #[vecV v, .int .u8 (n : Int), .int .i64 i, .int .u64 (x : Int)] W fun e W' => e = .returned (.bool true) ∧ Below W.heap.size W W' := by
  have hw := lwd_ok n
  have CW := fun W => wid_calls n W
  have E := cut_and hw hx
  generalize lwd n = w at *
  by_cases h : 0 ≤ i ∧ i < ((128 / w : Nat) : Int)
  · obtain ⟨m, rfl⟩ := Int.eq_ofNat_of_zero_le h.1
    have hm : m < 128 / w := by have := h.2; omega
    have hy : x % 2 ^ w < 2 ^ w := Nat.mod_lt _ (Nat.two_pow_pos w)
    have o1 : ok1 (w : Int) ((x % 2 ^ w : Nat) : Int) = true := ok1_of hw ⟨by omega, by exact_mod_cast hy⟩
    have CS := fun W hT => lset_calls v hv (w : Int) (m : Int) (x % 2 ^ w) W hT
    have es : setV v (w : Int) (m : Int) (x % 2 ^ w) = (withN v w m (x % 2 ^ w), 0) := by
      unfold setV
      rw [isL_of hw hm, o1]; simp
    rw [es] at CS
    have CG : ∀ k : Nat, k < 128 / w → ∀ W : World, WTabs W → Calls Tryd.prog 10 #[vecV v, .int .i64 (w : Int), .int .i64 (k : Int)] W fun e W' => e = .returned (pairV ((laneN v w k : Int), 0)) ∧ Below W.heap.size W W' := by
      intro k hk W hT
      have := lget_calls v hv (w : Int) (k : Int) W hT
      unfold getV at this
      rw [isL_of hw hk] at this
      simpa using this
    have CH : ∀ k : Nat, k < 128 / w → ∀ W : World, WTabs W → Calls Tryd.prog 10 #[vecV (withN v w m (x % 2 ^ w)), .int .i64 (w : Int), .int .i64 (k : Int)] W fun e W' => e = .returned (pairV (((if k = m then x % 2 ^ w else laneN v w k : Nat) : Int), 0)) ∧ Below W.heap.size W W' := by
      intro k hk W hT
      have := lget_calls (withN v w m (x % 2 ^ w)) (with_ok hw hm hy hv) (w : Int) (k : Int) W hT
      unfold getV at this
      rw [isL_of hw hk] at this
      simp only [if_true, Int.toNat_natCast, lane_with hw hm hy k hk] at this
      exact this
    rcases hw with rfl | rfl | rfl | rfl
    · exact set_in8 n v.1 v.2 _ _ m x (x % 2 ^ 8) (laneN v 8) hm (hide CW) E E (hide CS) (hide CG) (hide CH) W (hide hT)
    · exact set_in16 n v.1 v.2 _ _ m x (x % 2 ^ 16) (laneN v 16) hm (hide CW) E E (hide CS) (hide CG) (hide CH) W (hide hT)
    · exact set_in32 n v.1 v.2 _ _ m x (x % 2 ^ 32) (laneN v 32) hm (hide CW) E E (hide CS) (hide CG) (hide CH) W (hide hT)
    · exact set_in64 n v.1 v.2 _ _ m x (x % 2 ^ 64) (laneN v 64) hm (hide CW) E E (hide CS) (hide CG) (hide CH) W (hide hT)
  · have h' : i < 0 ∨ (0 ≤ i ∧ ((128 / w : Nat) : Int) ≤ i) := by omega
    clear h
    rcases hw with rfl | rfl | rfl | rfl
    · exact set_out8 n v.1 v.2 i x h' (hide CW) (x % 2 ^ 8) E E W (hide hT)
    · exact set_out16 n v.1 v.2 i x h' (hide CW) (x % 2 ^ 16) E E W (hide hT)
    · exact set_out32 n v.1 v.2 i x h' (hide CW) (x % 2 ^ 32) E E W (hide hT)
    · exact set_out64 n v.1 v.2 i x h' (hide CW) (x % 2 ^ 64) E E W (hide hT)
end Go.Proofs.YtdhanapmknlobabDoor
