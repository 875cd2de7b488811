/-
  The landed types.Global, Table, Limits.
-/
import Derived.Test.YteacjhmbamcegaaTcOne
import Derived.Test.YteacjhmbamcegaaTypTab
import Derived.Test.YteacjhmbamcegaaTypSame
set_option linter.unusedVariables false
set_option linter.unusedSimpArgs false
namespace Go.Proofs.Yteacjhmbamcegaa
open Go.RowKit Typ

theorem flagAt_cases {l : List Int} (hb : ∀ i : Nat, 0 ≤ l[i]?.getD 0 ∧ l[i]?.getD 0 ≤ 255) (p : Int) : (∃ x, (x = 2 ∨ x = 4) ∧ (x = 2 ↔ (p < 0 ∨ (l.length : Int) < p)) ∧ (x = 4 → (0 ≤ p ∧ p ≤ l.length) ∧ (p = l.length ∨ 1 < l[p.toNat]?.getD 0)) ∧ flagAt l p = (false, 0, x)) ∨
    ∃ q : Nat, p = (q : Int) ∧ q < l.length ∧ ((l[q]?.getD 0 = 0 ∧ flagAt l p = (false, ((q + 1 : Nat) : Int), 0)) ∨ (l[q]?.getD 0 = 1 ∧ flagAt l p = (true, ((q + 1 : Nat) : Int), 0))) := by
  rcases oneAt_cases l p with ⟨x, hx, hi, h⟩ | ⟨q, rfl, hq, h⟩
  · refine .inl ⟨x, hx, hi, ?_, by unfold flagAt; rw [h]; simp only; rw [if_pos (by omega)]⟩
    intro h4
    have hn : ¬ (p < 0 ∨ (l.length : Int) < p) := fun c => by have := hi.2 c; omega
    refine ⟨by omega, .inl ?_⟩
    unfold oneAt at h
    rw [if_neg hn] at h
    by_cases d : p = l.length
    · exact d
    · rw [if_neg d] at h
      simp at h
      omega
  · have hb0 := hb q
    by_cases big : 1 < l[q]?.getD 0
    · exact .inl ⟨4, .inr rfl, by omega, fun _ => ⟨by omega, .inr (by simpa using big)⟩, by unfold flagAt; rw [h]; simp only; rw [if_neg (by simp), if_pos big]⟩
    · refine .inr ⟨q, rfl, hq, ?_⟩
      rcases (show l[q]?.getD 0 = 0 ∨ l[q]?.getD 0 = 1 by omega) with hx | hx
      · exact .inl ⟨hx, by unfold flagAt; rw [h]; simp only; rw [if_neg (by simp), if_neg big, hx]; rfl⟩
      · exact .inr ⟨hx, by unfold flagAt; rw [h]; simp only; rw [if_neg (by simp), if_neg big, hx]; rfl⟩

theorem globAt_flag {l : List Int} (hb : ∀ i : Nat, 0 ≤ l[i]?.getD 0 ∧ l[i]?.getD 0 ≤ 255) (p : Int) : globAt l p =
    if (valAt l p).2.2 ≠ 0 then ((0, false), 0, (valAt l p).2.2) else if (flagAt l (valAt l p).2.1).2.2 ≠ 0 then ((0, false), 0, (flagAt l (valAt l p).2.1).2.2) else (((valAt l p).1, (flagAt l (valAt l p).2.1).1), (flagAt l (valAt l p).2.1).2.1, 0) := by
  rcases valAt_cases l p with ⟨x, hx, h⟩ | ⟨q, rfl, hq, ht, h⟩
  · unfold globAt
    rw [h]
    simp only
    rw [if_pos (by omega), if_pos (by omega)]
  · unfold globAt
    rw [h]
    simp only [Int.toNat_natCast, ne_eq, not_true_eq_false, if_false]
    rcases flagAt_cases hb ((q + 1 : Nat) : Int) with ⟨x, hx, hi, h4, hf⟩ | ⟨r, hr, hlt, ⟨hy, hf⟩ | ⟨hy, hf⟩⟩
    · rw [hf]
      simp only
      have hx4 : x = 4 := by
        rcases hx with rfl | rfl
        · have := hi.1 rfl; omega
        · rfl
      subst hx4
      have h5 := (h4 rfl).2
      simp only [Int.toNat_natCast] at h5
      rw [if_pos h5]
      simp
    · have : r = q + 1 := by omega
      subst this
      rw [hf, hy]
      simp only
      rw [if_neg (by omega)]
      simp
    · have : r = q + 1 := by omega
      subst this
      rw [hf, hy]
      simp only
      rw [if_neg (by omega)]
      simp

set_option maxHeartbeats 4000000 in
theorem glob_walk (a : Option Addr) (len cap : Nat) (p t nx er : Int) (fb : Bool) (nx2 er2 : Int) (w : World)
    (C : Hid (∀ V, Below w.heap.size w V → Calls Try.prog 29 #[.slice a len cap, .int .i64 p] V fun e w' => e = .returned (.tuple #[.int .u8 t, .int .i64 nx, .int .i64 er]) ∧ w' = V))
    (D : Hid (∀ V, Below w.heap.size w V → Calls Try.prog 47 #[.slice a len cap, .int .i64 nx] V fun e w' => e = .returned (.tuple #[.bool fb, .int .i64 nx2, .int .i64 er2]) ∧ w' = V)) :
    Calls Try.prog 35 #[.slice a len cap, .int .i64 p] w fun e w' =>
      e = .returned (globR (if er ≠ 0 then ((0, false), 0, er) else if er2 ≠ 0 then ((0, false), 0, er2) else ((t, fb), nx2, 0))) ∧ Below w.heap.size w w' := by
  obtain ⟨wa, hwa⟩ : ∃ wa, w.alloc (.cells #[.int .u8 0, .bool false] 57) = wa := ⟨_, rfl⟩
  have KZ : Hid (SBlk wa w.heap.size 57 #[.int .u8 0, .bool false]) := hideT (by rw [← hwa]; exact sblk_new _ _ _)
  have BA : Hid (Below w.heap.size w wa) := hideT (by rw [← hwa]; exact (Below.refl _ _).alloc (Nat.le_refl _) _)
  have z0 : wa.cell? ⟨w.heap.size, 0, none⟩ = some (.int .u8 0) := KZ.out.cell rfl
  have z1 : wa.cell? ⟨w.heap.size, 1, none⟩ = some (.bool false) := KZ.out.cell rfl
  have f0 := KZ.out.frozen 0
  have f1 := KZ.out.frozen 1
  have HWA := hideT hwa
  have C1 := hideT (C.out wa BA.out)
  have D1 := hideT (D.out wa BA.out)
  clear hwa C D
  unfold globR
  by_cases h0 : er = 0
  · subst h0
    rw [if_neg (by simp)]
    by_cases h1 : er2 = 0
    · subst h1
      rw [if_neg (by simp)]
      go_enter Try.func35, Try.ntmps35
      go_wp2_with fail
      rw [HWA.out]
      go_wp2_with (first | ((with_reducible refine C1.out.mono ?_); rintro e w1 ⟨rfl, hw1⟩; subst hw1) | ((with_reducible refine D1.out.mono ?_); rintro e w1 ⟨rfl, hw1⟩; subst hw1))
      refine bodyPost_ret (v := .tuple #[.agg #[.int .u8 t, .bool fb], .int .i64 nx2, .int .i64 0]) (resultG (KZ.out.set2 _ _) (by rfl) _ rfl rfl rfl) rfl ?_
      exact ⟨rfl, (BA.out.setCell (by simp) _).setCell (by simp) _⟩
    · rw [if_pos h1]
      have hx0 : (er2 != 0) = true := by simp [h1]
      go_enter Try.func35, Try.ntmps35
      go_wp2_with fail
      rw [HWA.out]
      go_wp2_with (first | ((with_reducible refine C1.out.mono ?_); rintro e w1 ⟨rfl, hw1⟩; subst hw1) | ((with_reducible refine D1.out.mono ?_); rintro e w1 ⟨rfl, hw1⟩; subst hw1))
      refine bodyPost_ret (v := .tuple #[.agg #[.int .u8 0, .bool false], .int .i64 0, .int .i64 er2]) (resultG (KZ.out.set2 _ _) (by rfl) _ rfl rfl rfl) rfl ?_
      exact ⟨rfl, (BA.out.setCell (by simp) _).setCell (by simp) _⟩
  · rw [if_pos h0]
    have hx0 : (er != 0) = true := by simp [h0]
    go_enter Try.func35, Try.ntmps35
    go_wp2_with fail
    rw [HWA.out]
    go_wp2_with ((with_reducible refine C1.out.mono ?_); rintro e w1 ⟨rfl, hw1⟩; subst hw1)
    refine bodyPost_ret (v := .tuple #[.agg #[.int .u8 0, .bool false], .int .i64 0, .int .i64 er]) (resultG (KZ.out.set2 _ _) (by rfl) _ rfl rfl rfl) rfl ?_
    exact ⟨rfl, (BA.out.setCell (by simp) _).setCell (by simp) _⟩
theorem tGlobal_calls (a : Option Addr) (len cap : Nat) (l : List Int) (p : Int) (w : World) (H : Row w a len cap l) :
    Calls Try.prog 35 #[.slice a len cap, .int .i64 p] w fun e w' => e = .returned (globR (globAt l p)) ∧ Below w.heap.size w w' := by
  rw [globAt_flag H.2.2.2.1]
  exact glob_walk a len cap p _ _ _ _ _ _ w (hideT fun V hV => tVal_calls a len cap l p V (H.later hV)) (hideT fun V hV => flag_calls a len cap l _ V (H.later hV))

theorem limAt_flag {l : List Int} (hb : ∀ i : Nat, 0 ≤ l[i]?.getD 0 ∧ l[i]?.getD 0 ≤ 255) (p : Int) : limAt l p =
    if (flagAt l p).2.2 ≠ 0 then ((0, 0, false), 0, (flagAt l p).2.2) else if (Leb.readU l (flagAt l p).2.1 32).2.2 ≠ 0 then ((0, 0, false), 0, (Leb.readU l (flagAt l p).2.1 32).2.2)
    else if (flagAt l p).1 = false then (((Leb.readU l (flagAt l p).2.1 32).1, 0, false), (Leb.readU l (flagAt l p).2.1 32).2.1, 0)
    else if (Leb.readU l (Leb.readU l (flagAt l p).2.1 32).2.1 32).2.2 ≠ 0 then ((0, 0, false), 0, (Leb.readU l (Leb.readU l (flagAt l p).2.1 32).2.1 32).2.2)
    else (((Leb.readU l (flagAt l p).2.1 32).1, (Leb.readU l (Leb.readU l (flagAt l p).2.1 32).2.1 32).1, true), (Leb.readU l (Leb.readU l (flagAt l p).2.1 32).2.1 32).2.1, 0) := by
  rcases flagAt_cases hb p with ⟨x, hx, hi, h4, hf⟩ | ⟨q, rfl, hlt, hor⟩
  · rw [hf]
    simp only
    rw [if_pos (by omega)]
    rcases hx with rfl | rfl
    · rw [limAt_bad (hi.1 rfl)]
    · obtain ⟨hr, hend | hbig⟩ := h4 rfl
      · rw [hend, limAt_end]
      · obtain ⟨q, rfl⟩ : ∃ q : Nat, p = (q : Int) := ⟨p.toNat, by omega⟩
        by_cases c : q < l.length
        · rw [limAt_big c (by simpa using hbig)]
        · have : q = l.length := by omega
          rw [this, limAt_end]
  · rcases readU_in (l := l) (p := (q : Int) + 1) (by omega) (by omega) with hr | ⟨N, f, hr, hN, hf1, hf2⟩
    · rcases hor with ⟨hy, hf⟩ | ⟨hy, hf⟩ <;>
      · rw [hf, limAt_err hlt hr]
        simp only
        rw [show (((q + 1 : Nat) : Int)) = (q : Int) + 1 by omega, hr]
        simp
    · rcases hor with ⟨hy, hf⟩ | ⟨hy, hf⟩
      · rw [hf, limAt_one hlt hy hr]
        simp only
        rw [show (((q + 1 : Nat) : Int)) = (q : Int) + 1 by omega, hr]
        simp
      · rw [hf]
        simp only
        rw [show (((q + 1 : Nat) : Int)) = (q : Int) + 1 by omega, hr]
        simp only
        rcases readU_in (l := l) (p := (f : Int)) (by omega) (by omega) with hr2 | ⟨M, g, hr2, hM, hg1, hg2⟩
        · rw [limAt_err2 hlt hy hr hr2, hr2]
          simp
        · rw [limAt_two hlt hy hr hr2, hr2]
          simp
theorem readU_32 (l : List Int) (p : Int) : IntKind.u32.wrap (Leb.readU l p 32).1 = (Leb.readU l p 32).1 := by
  rcases readU_parts l p with ⟨x, _, h⟩ | ⟨N, f, h, hN, _, _⟩
  · rw [h]; show IntKind.u32.wrap 0 = 0; rfl
  · rw [h]; exact wrap_32 hN

set_option maxHeartbeats 4000000 in
theorem lim_walk (a : Option Addr) (len cap : Nat) (p nx er n nx1 er1 x nx2 er2 : Int) (fb : Bool) (w : World) (w32 : IntKind.u32.wrap n = n) (w33 : IntKind.u32.wrap x = x)
    (C : Hid (∀ V, Below w.heap.size w V → Calls Try.prog 47 #[.slice a len cap, .int .i64 p] V fun e w' => e = .returned (.tuple #[.bool fb, .int .i64 nx, .int .i64 er]) ∧ w' = V))
    (D : Hid (∀ V, Below w.heap.size w V → Calls Try.prog 48 #[.slice a len cap, .int .i64 nx, .int .i64 32] V fun e w' => e = .returned (.tuple #[.int .u64 n, .int .i64 nx1, .int .i64 er1]) ∧ Below V.heap.size V w'))
    (F : Hid (∀ V, Below w.heap.size w V → Calls Try.prog 48 #[.slice a len cap, .int .i64 nx1, .int .i64 32] V fun e w' => e = .returned (.tuple #[.int .u64 x, .int .i64 nx2, .int .i64 er2]) ∧ Below V.heap.size V w')) :
    Calls Try.prog 31 #[.slice a len cap, .int .i64 p] w fun e w' =>
      e = .returned (limR (if er ≠ 0 then ((0, 0, false), 0, er) else if er1 ≠ 0 then ((0, 0, false), 0, er1) else if fb = false then ((n, 0, false), nx1, 0) else if er2 ≠ 0 then ((0, 0, false), 0, er2) else ((n, x, true), nx2, 0))) ∧ Below w.heap.size w w' := by
  obtain ⟨wa, hwa⟩ : ∃ wa, w.alloc (.cells #[.int .u32 0, .int .u32 0, .bool false] 33) = wa := ⟨_, rfl⟩
  have KZ : Hid (SBlk wa w.heap.size 33 #[.int .u32 0, .int .u32 0, .bool false]) := hideT (by rw [← hwa]; exact sblk_new _ _ _)
  have BA : Hid (Below w.heap.size w wa) := hideT (by rw [← hwa]; exact (Below.refl _ _).alloc (Nat.le_refl _) _)
  have HWA := hideT hwa
  have C1 := hideT (C.out wa BA.out)
  have D1 := hideT (D.out wa BA.out)
  clear hwa C D
  unfold limR limV
  by_cases h0 : er = 0
  · subst h0
    rw [if_neg (by simp)]
    by_cases h1 : er1 = 0
    · subst h1
      rw [if_neg (by simp)]
      cases fb with
      | false =>
        rw [if_pos rfl]
        clear F
        go_enter Try.func31, Try.ntmps31
        go_wp2_with fail
        rw [HWA.out]
        refine C1.out.mono ?_
        rintro e w1 ⟨rfl, hw1⟩
        subst hw1
        go_wp2_with fail
        refine D1.out.mono ?_
        rintro e w1 ⟨rfl, hb1⟩
        have K1 : Hid (SBlk w1 w.heap.size 33 #[.int .u32 0, .int .u32 0, .bool false]) := hideT (KZ.out.later hb1 KZ.out.lt)
        have B1 : Hid (Below w.heap.size w w1) := hideT (BA.out.trans (hb1.mono BA.out.size))
        clear hb1
        have z0 : w1.cell? ⟨w.heap.size, 0, none⟩ = some (.int .u32 0) := K1.out.cell rfl
        have z1 : w1.cell? ⟨w.heap.size, 1, none⟩ = some (.int .u32 0) := K1.out.cell rfl
        have z2 : w1.cell? ⟨w.heap.size, 2, none⟩ = some (.bool false) := K1.out.cell rfl
        have f0 := K1.out.frozen 0
        have f1 := K1.out.frozen 1
        have f2 := K1.out.frozen 2
        go_wp2
        refine bodyPost_ret (v := .tuple #[.agg #[.int .u32 n, .int .u32 0, .bool false], .int .i64 nx1, .int .i64 0]) (resultL (K1.out.set3 _ _ _) (by rfl) _ rfl rfl rfl) rfl ?_
        exact ⟨rfl, ((B1.out.setCell (by simp) _).setCell (by simp) _).setCell (by simp) _⟩
      | true =>
        rw [if_neg (by decide)]
        by_cases h2 : er2 = 0
        · subst h2
          rw [if_neg (by simp)]
          go_enter Try.func31, Try.ntmps31
          go_wp2_with fail
          rw [HWA.out]
          refine C1.out.mono ?_
          rintro e w1 ⟨rfl, hw1⟩
          subst hw1
          go_wp2_with fail
          refine D1.out.mono ?_
          rintro e w1 ⟨rfl, hb1⟩
          have K1 : Hid (SBlk w1 w.heap.size 33 #[.int .u32 0, .int .u32 0, .bool false]) := hideT (KZ.out.later hb1 KZ.out.lt)
          have B1 : Hid (Below w.heap.size w w1) := hideT (BA.out.trans (hb1.mono BA.out.size))
          have F1 := hideT (F.out w1 B1.out)
          clear hb1 F
          go_wp2_with fail
          refine F1.out.mono ?_
          rintro e w2 ⟨rfl, hb2⟩
          have K2 : Hid (SBlk w2 w.heap.size 33 #[.int .u32 0, .int .u32 0, .bool false]) := hideT (K1.out.later hb2 K1.out.lt)
          have B2 : Hid (Below w.heap.size w w2) := hideT (B1.out.trans (hb2.mono B1.out.size))
          clear hb2
          have z0 : w2.cell? ⟨w.heap.size, 0, none⟩ = some (.int .u32 0) := K2.out.cell rfl
          have z1 : w2.cell? ⟨w.heap.size, 1, none⟩ = some (.int .u32 0) := K2.out.cell rfl
          have z2 : w2.cell? ⟨w.heap.size, 2, none⟩ = some (.bool false) := K2.out.cell rfl
          have f0 := K2.out.frozen 0
          have f1 := K2.out.frozen 1
          have f2 := K2.out.frozen 2
          go_wp2
          refine bodyPost_ret (v := .tuple #[.agg #[.int .u32 n, .int .u32 x, .bool true], .int .i64 nx2, .int .i64 0]) (resultL (K2.out.set3 _ _ _) (by rfl) _ rfl rfl rfl) rfl ?_
          exact ⟨rfl, ((B2.out.setCell (by simp) _).setCell (by simp) _).setCell (by simp) _⟩
        · rw [if_pos h2]
          have hx0 : (er2 != 0) = true := by simp [h2]
          go_enter Try.func31, Try.ntmps31
          go_wp2_with fail
          rw [HWA.out]
          refine C1.out.mono ?_
          rintro e w1 ⟨rfl, hw1⟩
          subst hw1
          go_wp2_with fail
          refine D1.out.mono ?_
          rintro e w1 ⟨rfl, hb1⟩
          have K1 : Hid (SBlk w1 w.heap.size 33 #[.int .u32 0, .int .u32 0, .bool false]) := hideT (KZ.out.later hb1 KZ.out.lt)
          have B1 : Hid (Below w.heap.size w w1) := hideT (BA.out.trans (hb1.mono BA.out.size))
          have F1 := hideT (F.out w1 B1.out)
          clear hb1 F
          go_wp2_with fail
          refine F1.out.mono ?_
          rintro e w2 ⟨rfl, hb2⟩
          have K2 : Hid (SBlk w2 w.heap.size 33 #[.int .u32 0, .int .u32 0, .bool false]) := hideT (K1.out.later hb2 K1.out.lt)
          have B2 : Hid (Below w.heap.size w w2) := hideT (B1.out.trans (hb2.mono B1.out.size))
          clear hb2
          have z0 : w2.cell? ⟨w.heap.size, 0, none⟩ = some (.int .u32 0) := K2.out.cell rfl
          have z1 : w2.cell? ⟨w.heap.size, 1, none⟩ = some (.int .u32 0) := K2.out.cell rfl
          have z2 : w2.cell? ⟨w.heap.size, 2, none⟩ = some (.bool false) := K2.out.cell rfl
          have f0 := K2.out.frozen 0
          have f1 := K2.out.frozen 1
          have f2 := K2.out.frozen 2
          go_wp2
          refine bodyPost_ret (v := .tuple #[.agg #[.int .u32 0, .int .u32 0, .bool false], .int .i64 0, .int .i64 er2]) (resultL (K2.out.set3 _ _ _) (by rfl) _ rfl rfl rfl) rfl ?_
          exact ⟨rfl, ((B2.out.setCell (by simp) _).setCell (by simp) _).setCell (by simp) _⟩
    · rw [if_pos h1]
      have hx0 : (er1 != 0) = true := by simp [h1]
      clear F
      go_enter Try.func31, Try.ntmps31
      go_wp2_with fail
      rw [HWA.out]
      refine C1.out.mono ?_
      rintro e w1 ⟨rfl, hw1⟩
      subst hw1
      go_wp2_with fail
      refine D1.out.mono ?_
      rintro e w1 ⟨rfl, hb1⟩
      have K1 : Hid (SBlk w1 w.heap.size 33 #[.int .u32 0, .int .u32 0, .bool false]) := hideT (KZ.out.later hb1 KZ.out.lt)
      have B1 : Hid (Below w.heap.size w w1) := hideT (BA.out.trans (hb1.mono BA.out.size))
      clear hb1
      have z0 : w1.cell? ⟨w.heap.size, 0, none⟩ = some (.int .u32 0) := K1.out.cell rfl
      have z1 : w1.cell? ⟨w.heap.size, 1, none⟩ = some (.int .u32 0) := K1.out.cell rfl
      have z2 : w1.cell? ⟨w.heap.size, 2, none⟩ = some (.bool false) := K1.out.cell rfl
      have f0 := K1.out.frozen 0
      have f1 := K1.out.frozen 1
      have f2 := K1.out.frozen 2
      go_wp2
      refine bodyPost_ret (v := .tuple #[.agg #[.int .u32 0, .int .u32 0, .bool false], .int .i64 0, .int .i64 er1]) (resultL (K1.out.set3 _ _ _) (by rfl) _ rfl rfl rfl) rfl ?_
      exact ⟨rfl, ((B1.out.setCell (by simp) _).setCell (by simp) _).setCell (by simp) _⟩
  · rw [if_pos h0]
    have hx0 : (er != 0) = true := by simp [h0]
    have z0 : wa.cell? ⟨w.heap.size, 0, none⟩ = some (.int .u32 0) := KZ.out.cell rfl
    have z1 : wa.cell? ⟨w.heap.size, 1, none⟩ = some (.int .u32 0) := KZ.out.cell rfl
    have z2 : wa.cell? ⟨w.heap.size, 2, none⟩ = some (.bool false) := KZ.out.cell rfl
    have f0 := KZ.out.frozen 0
    have f1 := KZ.out.frozen 1
    have f2 := KZ.out.frozen 2
    clear F D1
    go_enter Try.func31, Try.ntmps31
    go_wp2_with fail
    rw [HWA.out]
    refine C1.out.mono ?_
    rintro e w1 ⟨rfl, hw1⟩
    subst hw1
    go_wp2
    refine bodyPost_ret (v := .tuple #[.agg #[.int .u32 0, .int .u32 0, .bool false], .int .i64 0, .int .i64 er]) (resultL (KZ.out.set3 _ _ _) (by rfl) _ rfl rfl rfl) rfl ?_
    exact ⟨rfl, ((BA.out.setCell (by simp) _).setCell (by simp) _).setCell (by simp) _⟩
theorem U_below (a : Option Addr) (len cap : Nat) (l : List Int) (p wd : Int) (w : World) (H : Row w a len cap l) :
    Calls Try.prog 48 #[.slice a len cap, .int .i64 p, .int .i64 wd] w fun e w' => e = .returned (triU (Leb.readU l p wd)) ∧ Below w.heap.size w w' :=
  (U_calls a len cap l p wd w H).mono fun e w' ⟨he, n, hw⟩ => ⟨he, by rw [hw]; exact below_drewNq (Below.refl _ _) _⟩
theorem tLimits_calls (a : Option Addr) (len cap : Nat) (l : List Int) (p : Int) (w : World) (H : Row w a len cap l) :
    Calls Try.prog 31 #[.slice a len cap, .int .i64 p] w fun e w' => e = .returned (limR (limAt l p)) ∧ Below w.heap.size w w' := by
  rw [limAt_flag H.2.2.2.1]
  exact lim_walk a len cap p _ _ _ _ _ _ _ _ _ w (readU_32 _ _) (readU_32 _ _) (hideT fun V hV => flag_calls a len cap l p V (H.later hV)) (hideT fun V hV => U_below a len cap l _ 32 V (H.later hV)) (hideT fun V hV => U_below a len cap l _ 32 V (H.later hV))

set_option maxHeartbeats 4000000 in
theorem tab_walk (a : Option Addr) (len cap : Nat) (p t nx er n x nx2 er2 : Int) (bb rb : Bool) (w : World)
    (C : Hid (∀ V, Below w.heap.size w V → Calls Try.prog 29 #[.slice a len cap, .int .i64 p] V fun e w' => e = .returned (.tuple #[.int .u8 t, .int .i64 nx, .int .i64 er]) ∧ w' = V))
    (R : Hid (∀ V, Calls Try.prog 11 #[.int .u8 t] V fun e w' => e = .returned (.bool rb) ∧ w' = V))
    (D : Hid (∀ V, Below w.heap.size w V → Calls Try.prog 31 #[.slice a len cap, .int .i64 nx] V fun e w' => e = .returned (.tuple #[.agg #[.int .u32 n, .int .u32 x, .bool bb], .int .i64 nx2, .int .i64 er2]) ∧ Below V.heap.size V w')) :
    Calls Try.prog 33 #[.slice a len cap, .int .i64 p] w fun e w' =>
      e = .returned (tabR (if er ≠ 0 then ((0, 0, 0, false), 0, er) else if rb = false then ((0, 0, 0, false), 0, 4) else if er2 ≠ 0 then ((0, 0, 0, false), 0, er2) else ((t, n, x, bb), nx2, 0))) ∧ Below w.heap.size w w' := by
  obtain ⟨wa, hwa⟩ : ∃ wa, w.alloc (.cells #[.int .u8 0, .int .u32 0, .int .u32 0, .bool false] 35) = wa := ⟨_, rfl⟩
  have KZ : Hid (SBlk wa w.heap.size 35 #[.int .u8 0, .int .u32 0, .int .u32 0, .bool false]) := hideT (by rw [← hwa]; exact sblk_new _ _ _)
  have BA : Hid (Below w.heap.size w wa) := hideT (by rw [← hwa]; exact (Below.refl _ _).alloc (Nat.le_refl _) _)
  have z0 : wa.cell? ⟨w.heap.size, 0, none⟩ = some (.int .u8 0) := KZ.out.cell rfl
  have z1 : wa.cell? ⟨w.heap.size, 1, none⟩ = some (.int .u32 0) := KZ.out.cell rfl
  have z2 : wa.cell? ⟨w.heap.size, 2, none⟩ = some (.int .u32 0) := KZ.out.cell rfl
  have z3 : wa.cell? ⟨w.heap.size, 3, none⟩ = some (.bool false) := KZ.out.cell rfl
  have f0 := KZ.out.frozen 0
  have f1 := KZ.out.frozen 1
  have f2 := KZ.out.frozen 2
  have f3 := KZ.out.frozen 3
  have HWA := hideT hwa
  have C1 := hideT (C.out wa BA.out)
  have D2 := hideT (D.out wa BA.out)
  clear hwa C D
  unfold tabR tabV
  by_cases h0 : er = 0
  · subst h0
    rw [if_neg (by simp)]
    cases rb with
    | false =>
      rw [if_pos rfl]
      go_enter Try.func33, Try.ntmps33
      go_wp2_with fail
      rw [HWA.out]
      refine C1.out.mono ?_
      rintro e w1 ⟨rfl, hw1⟩
      subst hw1
      go_wp2_with ((with_reducible refine (R.out _).mono ?_); rintro e w2 ⟨rfl, rfl⟩)
      refine bodyPost_ret (v := .tuple #[.agg #[.int .u8 0, .int .u32 0, .int .u32 0, .bool false], .int .i64 0, .int .i64 4]) (resultT (KZ.out.set4 _ _ _ _) (by rfl) _ rfl rfl rfl) rfl ?_
      exact ⟨rfl, (((BA.out.setCell (by simp) _).setCell (by simp) _).setCell (by simp) _).setCell (by simp) _⟩
    | true =>
      rw [if_neg (by decide)]
      by_cases h2 : er2 = 0
      · subst h2
        rw [if_neg (by simp)]
        go_enter Try.func33, Try.ntmps33
        go_wp2_with fail
        rw [HWA.out]
        refine C1.out.mono ?_
        rintro e w1 ⟨rfl, hw1⟩
        subst hw1
        go_wp2_with ((with_reducible refine (R.out _).mono ?_); rintro e w2 ⟨rfl, rfl⟩)
        refine D2.out.mono ?_
        rintro e w2 ⟨rfl, hb2⟩
        obtain ⟨w3, h3⟩ : ∃ w3, w2.alloc (.cells #[.int .u32 n, .int .u32 x, .bool bb] 33) = w3 := ⟨_, rfl⟩
        have K1 : Hid (SBlk w3 w.heap.size 35 #[.int .u8 0, .int .u32 0, .int .u32 0, .bool false]) := hideT (by
          have k := KZ.out.later hb2 KZ.out.lt
          rw [← h3]
          exact (heap_alloc_old w2 _ k.lt).trans k)
        have B1 : Hid (Below w.heap.size w w3) := hideT (by rw [← h3]; exact (BA.out.trans (hb2.mono BA.out.size)).alloc (Nat.le_trans BA.out.size hb2.size) _)
        have H3 := hideT h3
        clear hb2 z0 z1 z2 z3 f0 f1 f2 f3 h3
        have z0 : w3.cell? ⟨w.heap.size, 0, none⟩ = some (.int .u8 0) := K1.out.cell rfl
        have z1 : w3.cell? ⟨w.heap.size, 1, none⟩ = some (.int .u32 0) := K1.out.cell rfl
        have z2 : w3.cell? ⟨w.heap.size, 2, none⟩ = some (.int .u32 0) := K1.out.cell rfl
        have z3 : w3.cell? ⟨w.heap.size, 3, none⟩ = some (.bool false) := K1.out.cell rfl
        have f0 := K1.out.frozen 0
        have f1 := K1.out.frozen 1
        have f2 := K1.out.frozen 2
        have f3 := K1.out.frozen 3
        rw [← H3.out] at z0 z1 z2 z3 f0 f1 f2 f3
        go_wp2_with fail
        rw [H3.out]
        refine bodyPost_ret (v := .tuple #[.agg #[.int .u8 t, .int .u32 n, .int .u32 x, .bool bb], .int .i64 nx2, .int .i64 0]) (resultT (K1.out.set4 _ _ _ _) (by rfl) _ rfl rfl rfl) rfl ?_
        exact ⟨rfl, (((B1.out.setCell (by simp) _).setCell (by simp) _).setCell (by simp) _).setCell (by simp) _⟩
      · rw [if_pos h2]
        have hx0 : (er2 != 0) = true := by simp [h2]
        go_enter Try.func33, Try.ntmps33
        go_wp2_with fail
        rw [HWA.out]
        refine C1.out.mono ?_
        rintro e w1 ⟨rfl, hw1⟩
        subst hw1
        go_wp2_with ((with_reducible refine (R.out _).mono ?_); rintro e w2 ⟨rfl, rfl⟩)
        refine D2.out.mono ?_
        rintro e w2 ⟨rfl, hb2⟩
        obtain ⟨w3, h3⟩ : ∃ w3, w2.alloc (.cells #[.int .u32 n, .int .u32 x, .bool bb] 33) = w3 := ⟨_, rfl⟩
        have K1 : Hid (SBlk w3 w.heap.size 35 #[.int .u8 0, .int .u32 0, .int .u32 0, .bool false]) := hideT (by
          have k := KZ.out.later hb2 KZ.out.lt
          rw [← h3]
          exact (heap_alloc_old w2 _ k.lt).trans k)
        have B1 : Hid (Below w.heap.size w w3) := hideT (by rw [← h3]; exact (BA.out.trans (hb2.mono BA.out.size)).alloc (Nat.le_trans BA.out.size hb2.size) _)
        have H3 := hideT h3
        clear hb2 z0 z1 z2 z3 f0 f1 f2 f3 h3
        have z0 : w3.cell? ⟨w.heap.size, 0, none⟩ = some (.int .u8 0) := K1.out.cell rfl
        have z1 : w3.cell? ⟨w.heap.size, 1, none⟩ = some (.int .u32 0) := K1.out.cell rfl
        have z2 : w3.cell? ⟨w.heap.size, 2, none⟩ = some (.int .u32 0) := K1.out.cell rfl
        have z3 : w3.cell? ⟨w.heap.size, 3, none⟩ = some (.bool false) := K1.out.cell rfl
        have f0 := K1.out.frozen 0
        have f1 := K1.out.frozen 1
        have f2 := K1.out.frozen 2
        have f3 := K1.out.frozen 3
        rw [← H3.out] at z0 z1 z2 z3 f0 f1 f2 f3
        go_wp2_with fail
        rw [H3.out]
        refine bodyPost_ret (v := .tuple #[.agg #[.int .u8 0, .int .u32 0, .int .u32 0, .bool false], .int .i64 0, .int .i64 er2]) (resultT (K1.out.set4 _ _ _ _) (by rfl) _ rfl rfl rfl) rfl ?_
        exact ⟨rfl, (((B1.out.setCell (by simp) _).setCell (by simp) _).setCell (by simp) _).setCell (by simp) _⟩
  · rw [if_pos h0]
    have hx0 : (er != 0) = true := by simp [h0]
    go_enter Try.func33, Try.ntmps33
    go_wp2_with fail
    rw [HWA.out]
    refine C1.out.mono ?_
    rintro e w1 ⟨rfl, hw1⟩
    subst hw1
    go_wp2
    refine bodyPost_ret (v := .tuple #[.agg #[.int .u8 0, .int .u32 0, .int .u32 0, .bool false], .int .i64 0, .int .i64 er]) (resultT (KZ.out.set4 _ _ _ _) (by rfl) _ rfl rfl rfl) rfl ?_
    exact ⟨rfl, (((BA.out.setCell (by simp) _).setCell (by simp) _).setCell (by simp) _).setCell (by simp) _⟩
theorem tTable_calls (a : Option Addr) (len cap : Nat) (l : List Int) (p : Int) (w : World) (H : Row w a len cap l) :
    Calls Try.prog 33 #[.slice a len cap, .int .i64 p] w fun e w' => e = .returned (tabR (tabAt l p)) ∧ Below w.heap.size w w' := by
  unfold tabAt
  exact tab_walk a len cap p _ _ _ _ _ _ _ _ _ w (hideT fun V hV => tVal_calls a len cap l p V (H.later hV)) (hideT fun V => tIsRef_calls _ V) (hideT fun V hV => tLimits_calls a len cap l _ V (H.later hV))
end Go.Proofs.Yteacjhmbamcegaa
