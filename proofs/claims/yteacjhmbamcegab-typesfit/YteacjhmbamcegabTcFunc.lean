/-
  The landed types.Func.
-/
import Derived.Test.YteacjhmbamcegabTcVals
set_option linter.unusedVariables false
set_option linter.unusedSimpArgs false
namespace Go.Proofs.Yteacjhmbamcegab
open Go.RowKit Typ

set_option maxHeartbeats 4000000 in
theorem func_walk (a : Option Addr) (len cap : Nat) (p y nx er nx1 e1 nx2 e2 : Int) (l1 l2 : List Int) (w : World)
    (C : Hid (∀ V, Below w.heap.size w V → Calls Try.prog 24 #[.slice a len cap, .int .i64 p] V fun e w' => e = .returned (.tuple #[.int .u8 y, .int .i64 nx, .int .i64 er]) ∧ w' = V))
    (D : Hid (∀ V, Below w.heap.size w V → Calls Try.prog 25 #[.slice a len cap, .int .i64 nx] V fun e w' => Below V.heap.size V w' ∧ ∃ v, e = .returned (.tuple #[v, .int .i64 nx1, .int .i64 e1]) ∧ OwnT w' V.heap.size v l1))
    (F : Hid (∀ V, Below w.heap.size w V → Calls Try.prog 25 #[.slice a len cap, .int .i64 nx1] V fun e w' => Below V.heap.size V w' ∧ ∃ v, e = .returned (.tuple #[v, .int .i64 nx2, .int .i64 e2]) ∧ OwnT w' V.heap.size v l2)) :
    Calls Try.prog 14 #[.slice a len cap, .int .i64 p] w fun e w' =>
      FuncPost (if er ≠ 0 then (([], []), 0, er) else if y ≠ 96 then (([], []), 0, 4) else if e1 ≠ 0 then (([], []), 0, e1) else if e2 ≠ 0 then (([], []), 0, e2) else ((l1, l2), nx2, 0)) w e w' := by
  obtain ⟨wa, hwa⟩ : ∃ wa, w.alloc (.cells #[.slice none 0 0, .slice none 0 0] 33) = wa := ⟨_, rfl⟩
  have KZ : Hid (SBlk wa w.heap.size 33 #[.slice none 0 0, .slice none 0 0]) := hideT (by rw [← hwa]; exact sblk_new _ _ _)
  have BA : Hid (Below w.heap.size w wa) := hideT (by rw [← hwa]; exact (Below.refl _ _).alloc (Nat.le_refl _) _)
  have z0 : wa.cell? ⟨w.heap.size, 0, none⟩ = some (.slice none 0 0) := KZ.out.cell rfl
  have z1 : wa.cell? ⟨w.heap.size, 1, none⟩ = some (.slice none 0 0) := KZ.out.cell rfl
  have f0 := KZ.out.frozen 0
  have f1 := KZ.out.frozen 1
  have HWA := hideT hwa
  have C1 := hideT (C.out wa BA.out)
  have D1 := hideT (D.out wa BA.out)
  have GB : Hid (w.heap.size < wa.heap.size) := KZ.out.lt
  clear hwa C D
  by_cases h0 : er = 0
  · subst h0
    rw [if_neg (by simp)]
    by_cases hy : y = 96
    · subst hy
      rw [if_neg (by simp)]
      by_cases h1 : e1 = 0
      · subst h1
        rw [if_neg (by simp)]
        by_cases h2 : e2 = 0
        · subst h2
          rw [if_neg (by simp)]
          go_enter Try.func14, Try.ntmps14
          go_wp2_with fail
          rw [HWA.out]
          refine C1.out.mono ?_
          rintro e w1 ⟨rfl, hw1⟩
          subst hw1
          go_wp2_with fail
          refine D1.out.mono ?_
          rintro e w1 ⟨hb1, v1, rfl, ho1⟩
          have K1 : Hid (SBlk w1 w.heap.size 33 #[.slice none 0 0, .slice none 0 0]) := hideT (KZ.out.later hb1 KZ.out.lt)
          have B1 : Hid (Below w.heap.size w w1) := hideT (BA.out.trans (hb1.mono BA.out.size))
          have O1 := hideT ho1
          have F1 := hideT (F.out w1 B1.out)
          obtain ⟨av, cv, hv⟩ := O1.out.shape
          subst hv
          clear hb1 z0 z1 f0 f1 ho1 F
          go_wp2_with fail
          refine F1.out.mono ?_
          rintro e w2 ⟨hb2, v2, rfl, ho2⟩
          have K2 : Hid (SBlk w2 w.heap.size 33 #[.slice none 0 0, .slice none 0 0]) := hideT (K1.out.later hb2 K1.out.lt)
          have B2 : Hid (Below w.heap.size w w2) := hideT (B1.out.trans (hb2.mono B1.out.size))
          have P1 := hideT (O1.out.later hb2)
          have P2 := hideT ho2
          have GB2 : Hid (w.heap.size < w1.heap.size) := K1.out.lt
          clear hb2 ho2
          have z0 : w2.cell? ⟨w.heap.size, 0, none⟩ = some (.slice none 0 0) := K2.out.cell rfl
          have z1 : w2.cell? ⟨w.heap.size, 1, none⟩ = some (.slice none 0 0) := K2.out.cell rfl
          have f0 := K2.out.frozen 0
          have f1 := K2.out.frozen 1
          obtain ⟨aw, cw, hw⟩ := P2.out.shape
          subst hw
          go_wp2
          refine bodyPost_ret (v := .tuple #[.agg #[.slice av l1.length cv, .slice aw l2.length cw], .int .i64 nx2, .int .i64 0]) (resultF (K2.out.set2 _ _) (by rfl) _ rfl rfl rfl) rfl ?_
          exact ⟨_, _, rfl, ((P1.out.set GB.out 0 _).set GB.out 1 _).mono (Nat.le_of_lt GB.out), ((P2.out.set GB2.out 0 _).set GB2.out 1 _).mono (Nat.le_of_lt GB2.out), (B2.out.setCell (by simp) _).setCell (by simp) _⟩
        · rw [if_pos h2]
          have hx0 : (e2 != 0) = true := by simp [h2]
          go_enter Try.func14, Try.ntmps14
          go_wp2_with fail
          rw [HWA.out]
          refine C1.out.mono ?_
          rintro e w1 ⟨rfl, hw1⟩
          subst hw1
          go_wp2_with fail
          refine D1.out.mono ?_
          rintro e w1 ⟨hb1, v1, rfl, ho1⟩
          have K1 : Hid (SBlk w1 w.heap.size 33 #[.slice none 0 0, .slice none 0 0]) := hideT (KZ.out.later hb1 KZ.out.lt)
          have B1 : Hid (Below w.heap.size w w1) := hideT (BA.out.trans (hb1.mono BA.out.size))
          have F1 := hideT (F.out w1 B1.out)
          obtain ⟨av, cv, hv⟩ := ho1.shape
          subst hv
          clear hb1 z0 z1 f0 f1 ho1 F
          go_wp2_with fail
          refine F1.out.mono ?_
          rintro e w2 ⟨hb2, v2, rfl, ho2⟩
          have K2 : Hid (SBlk w2 w.heap.size 33 #[.slice none 0 0, .slice none 0 0]) := hideT (K1.out.later hb2 K1.out.lt)
          have B2 : Hid (Below w.heap.size w w2) := hideT (B1.out.trans (hb2.mono B1.out.size))
          obtain ⟨aw, cw, hw⟩ := ho2.shape
          subst hw
          clear hb2 ho2
          have z0 : w2.cell? ⟨w.heap.size, 0, none⟩ = some (.slice none 0 0) := K2.out.cell rfl
          have z1 : w2.cell? ⟨w.heap.size, 1, none⟩ = some (.slice none 0 0) := K2.out.cell rfl
          have f0 := K2.out.frozen 0
          have f1 := K2.out.frozen 1
          go_wp2
          refine bodyPost_ret (v := .tuple #[.agg #[.slice none 0 0, .slice none 0 0], .int .i64 0, .int .i64 e2]) (resultF (K2.out.set2 _ _) (by rfl) _ rfl rfl rfl) rfl ?_
          exact ⟨_, _, rfl, OwnT.nil _ _, OwnT.nil _ _, (B2.out.setCell (by simp) _).setCell (by simp) _⟩
      · rw [if_pos h1]
        have hx0 : (e1 != 0) = true := by simp [h1]
        clear F
        go_enter Try.func14, Try.ntmps14
        go_wp2_with fail
        rw [HWA.out]
        refine C1.out.mono ?_
        rintro e w1 ⟨rfl, hw1⟩
        subst hw1
        go_wp2_with fail
        refine D1.out.mono ?_
        rintro e w1 ⟨hb1, v1, rfl, ho1⟩
        have K1 : Hid (SBlk w1 w.heap.size 33 #[.slice none 0 0, .slice none 0 0]) := hideT (KZ.out.later hb1 KZ.out.lt)
        have B1 : Hid (Below w.heap.size w w1) := hideT (BA.out.trans (hb1.mono BA.out.size))
        obtain ⟨av, cv, hv⟩ := ho1.shape
        subst hv
        clear hb1 z0 z1 f0 f1 ho1
        have z0 : w1.cell? ⟨w.heap.size, 0, none⟩ = some (.slice none 0 0) := K1.out.cell rfl
        have z1 : w1.cell? ⟨w.heap.size, 1, none⟩ = some (.slice none 0 0) := K1.out.cell rfl
        have f0 := K1.out.frozen 0
        have f1 := K1.out.frozen 1
        go_wp2
        refine bodyPost_ret (v := .tuple #[.agg #[.slice none 0 0, .slice none 0 0], .int .i64 0, .int .i64 e1]) (resultF (K1.out.set2 _ _) (by rfl) _ rfl rfl rfl) rfl ?_
        exact ⟨_, _, rfl, OwnT.nil _ _, OwnT.nil _ _, (B1.out.setCell (by simp) _).setCell (by simp) _⟩
    · rw [if_pos hy]
      have t1 : (y != 96) = true := by simp [hy]
      clear F D1
      go_enter Try.func14, Try.ntmps14
      go_wp2_with fail
      rw [HWA.out]
      go_wp2_with ((with_reducible refine C1.out.mono ?_); rintro e w1 ⟨rfl, hw1⟩; subst hw1)
      refine bodyPost_ret (v := .tuple #[.agg #[.slice none 0 0, .slice none 0 0], .int .i64 0, .int .i64 4]) (resultF (KZ.out.set2 _ _) (by rfl) _ rfl rfl rfl) rfl ?_
      exact ⟨_, _, rfl, OwnT.nil _ _, OwnT.nil _ _, (BA.out.setCell (by simp) _).setCell (by simp) _⟩
  · rw [if_pos h0]
    have hx0 : (er != 0) = true := by simp [h0]
    clear F D1
    go_enter Try.func14, Try.ntmps14
    go_wp2_with fail
    rw [HWA.out]
    go_wp2_with ((with_reducible refine C1.out.mono ?_); rintro e w1 ⟨rfl, hw1⟩; subst hw1)
    refine bodyPost_ret (v := .tuple #[.agg #[.slice none 0 0, .slice none 0 0], .int .i64 0, .int .i64 er]) (resultF (KZ.out.set2 _ _) (by rfl) _ rfl rfl rfl) rfl ?_
    exact ⟨_, _, rfl, OwnT.nil _ _, OwnT.nil _ _, (BA.out.setCell (by simp) _).setCell (by simp) _⟩

/-- From a place within, a list's error is 4; behind a list lies a place within. -/
theorem listAt_in {l : List Int} {p : Int} (h0 : 0 ≤ p) (h1 : p ≤ l.length) : listAt l p = ([], 0, 4) ∨ ∃ m : List Int, ∃ g : Nat, listAt l p = (m, (g : Int), 0) ∧ g ≤ l.length := by
  rcases readU_in h0 h1 with h | ⟨N, f, h, hN, hf1, hf2⟩
  · exact .inl (listAt_err (.inr rfl) h)
  · by_cases hs : l.length < f + N
    · exact .inl (listAt_short h hs hf2)
    · unfold listAt
      rw [rowAt_yes h (by omega)]
      simp only
      rw [if_neg (by simp)]
      split
      · exact .inr ⟨(l.drop f).take N, f + N, by simp, by omega⟩
      · exact .inl rfl
theorem funcAt_one (l : List Int) (p : Int) : funcAt l p = if (oneAt l p).2.2 ≠ 0 then (([], []), 0, (oneAt l p).2.2) else if (oneAt l p).1 ≠ 96 then (([], []), 0, 4)
    else if (listAt l (oneAt l p).2.1).2.2 ≠ 0 then (([], []), 0, (listAt l (oneAt l p).2.1).2.2)
    else if (listAt l (listAt l (oneAt l p).2.1).2.1).2.2 ≠ 0 then (([], []), 0, (listAt l (listAt l (oneAt l p).2.1).2.1).2.2)
    else (((listAt l (oneAt l p).2.1).1, (listAt l (listAt l (oneAt l p).2.1).2.1).1), (listAt l (listAt l (oneAt l p).2.1).2.1).2.1, 0) := by
  rcases oneAt_cases l p with ⟨x, hx, hi, h⟩ | ⟨q, rfl, hq, h⟩
  · rw [h]
    simp only
    rw [if_pos (by omega)]
    by_cases c : p < 0 ∨ (l.length : Int) < p
    · rw [funcAt_bad c, hi.2 c]
    · have : p = l.length := by
        unfold oneAt at h
        rw [if_neg c] at h
        by_cases d : p = l.length
        · exact d
        · rw [if_neg d] at h
          simp at h
          omega
      subst this
      rw [funcAt_end]
      have : x ≠ 2 := fun hh => c (hi.1 hh)
      have : x = 4 := by omega
      rw [this]
  · rw [h]
    simp only [ne_eq, not_true_eq_false, if_false]
    by_cases hx : l[q]?.getD 0 = 96
    · rw [funcAt_in hq hx, show (((q + 1 : Nat) : Int)) = (q : Int) + 1 by omega]
      simp only [hx, ne_eq, not_true_eq_false, if_false]
      rcases listAt_in (l := l) (p := (q : Int) + 1) (by omega) (by omega) with h1 | ⟨m, g, h1, hg⟩
      · rw [h1]; simp
      · rw [h1]
        simp only
        rcases listAt_in (l := l) (p := (g : Int)) (by omega) (by omega) with h2 | ⟨m2, g2, h2, hg2⟩
        · rw [h2]; simp
        · rw [h2]; simp
    · rw [funcAt_not hq hx, if_pos hx]
theorem tFunc_calls (a : Option Addr) (len cap : Nat) (l : List Int) (p : Int) (w : World) (H : Row w a len cap l) :
    Calls Try.prog 14 #[.slice a len cap, .int .i64 p] w fun e w' => FuncPost (funcAt l p) w e w' := by
  rw [funcAt_one]
  exact func_walk a len cap p _ _ _ _ _ _ _ _ _ w (hideT fun V hV => one_calls a len cap l p V (H.later hV)) (hideT fun V hV => vals_calls a len cap l _ V (H.later hV)) (hideT fun V hV => vals_calls a len cap l _ V (H.later hV))
end Go.Proofs.Yteacjhmbamcegab
