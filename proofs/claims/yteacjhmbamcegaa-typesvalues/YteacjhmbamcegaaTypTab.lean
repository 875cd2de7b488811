/-
  The document's Table.
-/
import Derived.Test.YteacjhmbamcegaaTypGlob
set_option linter.unusedVariables false
set_option linter.unusedSimpArgs false
namespace Go.Proofs.Yteacjhmbamcegaa
open Go.RowKit Typ

theorem limAt_e (l : List Int) (p : Int) : (limAt l p).2.2 = 0 ∨ (limAt l p).2.2 = 2 ∨ (limAt l p).2.2 = 4 := by
  unfold limAt
  split
  · exact .inr (.inl rfl)
  · split
    · exact .inr (.inr rfl)
    · split
      · exact .inr (.inr rfl)
      · split
        · exact .inl rfl
        · split
          · exact .inr (.inr rfl)
          · exact .inl rfl

set_option maxHeartbeats 4000000 in
theorem rTable_calls (a : Option Addr) (len cap : Nat) (l : List Int) (p : Int) (w : World) (H : Row w a len cap l) :
    Calls Try.prog 34 #[.slice a len cap, .int .i64 p] w fun e w' => e = .returned (tabR (tabAt l p)) ∧ Below w.heap.size w w' := by
  have HH := hideT H
  obtain ⟨wa, hwa⟩ : ∃ wa, w.alloc (.cells #[.int .u8 0, .int .u32 0, .int .u32 0, .bool false] 35) = wa := ⟨_, rfl⟩
  have KZ : Hid (SBlk wa w.heap.size 35 #[.int .u8 0, .int .u32 0, .int .u32 0, .bool false]) := hideT (by rw [← hwa]; exact sblk_new _ _ _)
  have BA : Hid (Below w.heap.size w wa) := hideT (by rw [← hwa]; exact (Below.refl _ _).alloc (Nat.le_refl _) _)
  have z0 : wa.cell? ⟨w.heap.size, 0, none⟩ = some (.int .u8 0) := KZ.out.cell rfl
  have z1 : wa.cell? ⟨w.heap.size, 1, none⟩ = some (.int .u32 0) := KZ.out.cell rfl
  have z2 : wa.cell? ⟨w.heap.size, 2, none⟩ = some (.int .u32 0) := KZ.out.cell rfl
  have z3 : wa.cell? ⟨w.heap.size, 3, none⟩ = some (.bool false) := KZ.out.cell rfl
  have f0 := KZ.out.frozen 0
  have f1 := KZ.out.frozen 1
  have f2 := KZ.out.frozen 2
  have f3 := KZ.out.frozen 3
  have HWA := hideT hwa
  obtain ⟨hl, hcap, hcm, hb, ha, hc⟩ := H
  unfold maxLen at hcm
  have C1 := rVal_calls a len cap l p wa (HH.out.later BA.out)
  unfold tabR tabV
  rcases valAt_cases l p with ⟨x, hx, h⟩ | ⟨q, rfl, hq, ht, h⟩
  · have E : Hid (tabAt l p = ((0, 0, 0, false), 0, x)) := hideT (by unfold tabAt; rw [h]; simp only; rw [if_pos (by omega)])
    rw [h] at C1
    unfold triV at C1
    have C1 := hideT C1
    have hx0 : (x != 0) = true := by rcases hx with rfl | rfl <;> rfl
    have hx1 : ¬ (x = 0) := by omega
    clear hc hb ha hwa h hx
    go_enter Try.func34, Try.ntmps34
    go_wp2_with fail
    rw [HWA.out]
    refine C1.out.mono ?_
    rintro e w1 ⟨rfl, hw1⟩
    subst hw1
    go_wp2
    refine bodyPost_ret (v := .tuple #[.agg #[.int .u8 0, .int .u32 0, .int .u32 0, .bool false], .int .i64 0, .int .i64 x]) (resultT (KZ.out.set4 _ _ _ _) (by rfl) _ rfl rfl rfl) rfl ?_
    exact ⟨by rw [E.out], (((BA.out.setCell (by simp) _).setCell (by simp) _).setCell (by simp) _).setCell (by simp) _⟩
  · rw [h] at C1
    unfold triV at C1
    have C1 := hideT C1
    have D1 := rIsRef_calls (l[q]?.getD 0)
    cases hr : isR (l[q]?.getD 0) with
    | false =>
      have E : Hid (tabAt l (q : Int) = ((0, 0, 0, false), 0, 4)) := hideT (by unfold tabAt; rw [h]; simp only; rw [if_neg (by simp), if_pos hr])
      rw [hr] at D1
      have D1 := hideT D1
      generalize l[q]?.getD 0 = t at *
      generalize ((q + 1 : Nat) : Int) = nx at *
      clear hc hb ha hwa h ht hr
      go_enter Try.func34, Try.ntmps34
      go_wp2_with fail
      rw [HWA.out]
      refine C1.out.mono ?_
      rintro e w1 ⟨rfl, hw1⟩
      subst hw1
      go_wp2_with ((with_reducible refine (D1.out _).mono ?_); rintro e w2 ⟨rfl, rfl⟩)
      refine bodyPost_ret (v := .tuple #[.agg #[.int .u8 0, .int .u32 0, .int .u32 0, .bool false], .int .i64 0, .int .i64 4]) (resultT (KZ.out.set4 _ _ _ _) (by rfl) _ rfl rfl rfl) rfl ?_
      exact ⟨by rw [E.out], (((BA.out.setCell (by simp) _).setCell (by simp) _).setCell (by simp) _).setCell (by simp) _⟩
    | true =>
      rw [hr] at D1
      have D1 := hideT D1
      have D2 := rLimits_calls a len cap l ((q + 1 : Nat) : Int) wa (HH.out.later BA.out)
      have EG : tabAt l (q : Int) = if (limAt l ((q + 1 : Nat) : Int)).2.2 ≠ 0 then ((0, 0, 0, false), 0, (limAt l ((q + 1 : Nat) : Int)).2.2) else ((l[q]?.getD 0, (limAt l ((q + 1 : Nat) : Int)).1), (limAt l ((q + 1 : Nat) : Int)).2.1, 0) := by
        unfold tabAt
        rw [h]
        simp only
        rw [if_neg (by simp), if_neg (by rw [hr]; simp)]
      have he := limAt_e l ((q + 1 : Nat) : Int)
      generalize limAt l ((q + 1 : Nat) : Int) = R at *
      obtain ⟨⟨n, x, bb⟩, nx, er⟩ := R
      unfold limR limV at D2
      simp only at D2 EG he
      have D2 := hideT D2
      generalize l[q]?.getD 0 = t at *
      generalize ((q + 1 : Nat) : Int) = pl at *
      clear hc hb ha hwa h ht hr
      by_cases e0 : er = 0
      · subst e0
        rw [if_neg (by simp)] at EG
        have E := hideT EG
        clear EG he
        go_enter Try.func34, Try.ntmps34
        go_wp2_with fail
        rw [HWA.out]
        refine C1.out.mono ?_
        rintro e w1 ⟨rfl, hw1⟩
        subst hw1
        go_wp2_with ((with_reducible refine (D1.out _).mono ?_); rintro e w2 ⟨rfl, rfl⟩)
        refine D2.out.mono ?_
        rintro e w2 ⟨rfl, hb2⟩
        obtain ⟨w3, h3⟩ : ∃ w3, w2.alloc (.cells #[.int .u32 n, .int .u32 x, .bool bb] 33) = w3 := ⟨_, rfl⟩
        have K1 : Hid (SBlk w3 w.heap.size 35 #[.int .u8 0, .int .u32 0, .int .u32 0, .bool false]) := hideT (by
          have k := KZ.out.later hb2 KZ.out.lt
          rw [← h3]
          exact (heap_alloc_old w2 _ k.lt).trans k)
        have L1 : Hid (SBlk w3 w2.heap.size 33 #[.int .u32 n, .int .u32 x, .bool bb]) := hideT (by rw [← h3]; exact sblk_new _ _ _)
        have B1 : Hid (Below w.heap.size w w3) := hideT (by rw [← h3]; exact (BA.out.trans (hb2.mono BA.out.size)).alloc (Nat.le_trans BA.out.size hb2.size) _)
        have H3 := hideT h3
        clear hb2 z0 z1 z2 z3 f0 f1 f2 f3 h3
        have z0 : w3.cell? ⟨w.heap.size, 0, none⟩ = some (.int .u8 0) := K1.out.cell rfl
        have z1 : w3.cell? ⟨w.heap.size, 1, none⟩ = some (.int .u32 0) := K1.out.cell rfl
        have z2 : w3.cell? ⟨w.heap.size, 2, none⟩ = some (.int .u32 0) := K1.out.cell rfl
        have z3 : w3.cell? ⟨w.heap.size, 3, none⟩ = some (.bool false) := K1.out.cell rfl
        have f0 := K1.out.frozen 0
        have f1 := K1.out.frozen 1
        have f2 := K1.out.frozen 2
        have f3 := K1.out.frozen 3
        rw [← H3.out] at z0 z1 z2 z3 f0 f1 f2 f3
        go_wp2_with fail
        rw [H3.out]
        refine bodyPost_ret (v := .tuple #[.agg #[.int .u8 t, .int .u32 n, .int .u32 x, .bool bb], .int .i64 nx, .int .i64 0]) (resultT (K1.out.set4 _ _ _ _) (by rfl) _ rfl rfl rfl) rfl ?_
        exact ⟨by rw [E.out], (((B1.out.setCell (by simp) _).setCell (by simp) _).setCell (by simp) _).setCell (by simp) _⟩
      · rw [if_pos e0] at EG
        have E := hideT EG
        have hx0 : (er != 0) = true := by simp [e0]
        clear EG he
        go_enter Try.func34, Try.ntmps34
        go_wp2_with fail
        rw [HWA.out]
        refine C1.out.mono ?_
        rintro e w1 ⟨rfl, hw1⟩
        subst hw1
        go_wp2_with ((with_reducible refine (D1.out _).mono ?_); rintro e w2 ⟨rfl, rfl⟩)
        refine D2.out.mono ?_
        rintro e w2 ⟨rfl, hb2⟩
        obtain ⟨w3, h3⟩ : ∃ w3, w2.alloc (.cells #[.int .u32 n, .int .u32 x, .bool bb] 33) = w3 := ⟨_, rfl⟩
        have K1 : Hid (SBlk w3 w.heap.size 35 #[.int .u8 0, .int .u32 0, .int .u32 0, .bool false]) := hideT (by
          have k := KZ.out.later hb2 KZ.out.lt
          rw [← h3]
          exact (heap_alloc_old w2 _ k.lt).trans k)
        have B1 : Hid (Below w.heap.size w w3) := hideT (by rw [← h3]; exact (BA.out.trans (hb2.mono BA.out.size)).alloc (Nat.le_trans BA.out.size hb2.size) _)
        have H3 := hideT h3
        clear hb2 z0 z1 z2 z3 f0 f1 f2 f3 h3
        have z0 : w3.cell? ⟨w.heap.size, 0, none⟩ = some (.int .u8 0) := K1.out.cell rfl
        have z1 : w3.cell? ⟨w.heap.size, 1, none⟩ = some (.int .u32 0) := K1.out.cell rfl
        have z2 : w3.cell? ⟨w.heap.size, 2, none⟩ = some (.int .u32 0) := K1.out.cell rfl
        have z3 : w3.cell? ⟨w.heap.size, 3, none⟩ = some (.bool false) := K1.out.cell rfl
        have f0 := K1.out.frozen 0
        have f1 := K1.out.frozen 1
        have f2 := K1.out.frozen 2
        have f3 := K1.out.frozen 3
        rw [← H3.out] at z0 z1 z2 z3 f0 f1 f2 f3
        go_wp2_with fail
        rw [H3.out]
        refine bodyPost_ret (v := .tuple #[.agg #[.int .u8 0, .int .u32 0, .int .u32 0, .bool false], .int .i64 0, .int .i64 er]) (resultT (K1.out.set4 _ _ _ _) (by rfl) _ rfl rfl rfl) rfl ?_
        exact ⟨by rw [E.out], (((B1.out.setCell (by simp) _).setCell (by simp) _).setCell (by simp) _).setCell (by simp) _⟩
end Go.Proofs.Yteacjhmbamcegaa
