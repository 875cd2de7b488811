/-
  The walk of the law 'LebLeast'.
-/
import Derived.Test.YtbhihlahnllpgaaLebPuts
namespace Go.Proofs.Ytbhihlahnllpgaa
open Go.RowKit
set_option linter.unusedVariables false

set_option maxHeartbeats 1000000 in
theorem least_nn (a : Option Addr) (len cap : Nat) (l : List Int) (p wd : Int) (w : World) (H : Row w a len cap l)
    (x : Int) (hx : (x == 0) = false) (en : Leb.readU l p wd = (0, 0, x))
    (y : Int) (hy : (y == 0) = false) (em : Leb.readS l p wd = (0, 0, y)) :
    Calls Try.prog 8 #[.slice a len cap, .int .i64 p, .int .i64 wd] w fun e w' => e = .returned (.bool true) ∧ Below w.heap.size w w' := by
  have c1 := U_calls a len cap l p wd w H
  rw [en] at c1
  have C1 := hide c1
  have c2 := fun k => S_calls a len cap l p wd (w.drewN k) (H.drewN k)
  rw [em] at c2
  have C2 := hide c2
  clear c1 c2 en em H
  go_enter Try.func8, Try.ntmps8
  go_wp2_with fail
  refine C1.out.mono ?_
  rintro e w1 ⟨rfl, k1, rfl⟩
  unfold triU
  go_wp2_with fail
  refine (C2.out k1).mono ?_
  rintro e w1 ⟨rfl, k2, rfl⟩
  unfold triS
  go_wp2_with (go_at_call 11; refine (works_calls _).mono ?_; rintro e w3 ⟨rfl, hb⟩)
  go_ret
  exact ⟨rfl, (below_drewN (Below.refl _ _) _).trans hb⟩

set_option maxHeartbeats 1000000 in
theorem least_yn (a : Option Addr) (len cap : Nat) (l : List Int) (p wd : Int) (w : World) (H : Row w a len cap l)
    (n nx : Int) (en : Leb.readU l p wd = (n, nx, 0)) (hn0 : 0 ≤ n) (hn1 : n < 18446744073709551616) (u1 : ¬ nx ≤ p) (u2 : ¬ (len : Int) < nx) (u3 : ((Leb.putU n).length : Int) ≤ nx - p) (u4 : (n / 2 ^ wd.toNat != 0) = false)
    (y : Int) (hy : (y == 0) = false) (em : Leb.readS l p wd = (0, 0, y))
    (h1 : 1 ≤ wd) (h2 : wd ≤ 64) (hp : 0 ≤ p) (hpl : p ≤ len) (hl : len ≤ 2 ^ 63 - 1) :
    Calls Try.prog 8 #[.slice a len cap, .int .i64 p, .int .i64 wd] w fun e w' => e = .returned (.bool true) ∧ Below w.heap.size w w' := by
  have c1 := U_calls a len cap l p wd w H
  rw [en] at c1
  have C1 := hide c1
  have c2 := fun k => S_calls a len cap l p wd (w.drewN k) (H.drewN k)
  rw [em] at c2
  have C2 := hide c2
  clear c1 c2 en em H
  have t1 : decide (p < 0) = false := by simp; omega
  have HN0 := hide hn0
  have HN1 := hide hn1
  clear hn1
  have t2 : decide (nx ≤ p) = false := by simp; omega
  have t3 : decide ((len : Int) < nx) = false := by simp; omega
  have t4 : decide (nx - p < ((Leb.putU n).length : Int)) = false := by simp; omega
  rcases (show decide (wd < 64) = true ∨ decide (wd < 64) = false by cases decide (wd < 64) <;> simp) with t5 | t5
  all_goals
    go_enter Try.func8, Try.ntmps8
    go_wp2_with fail
    refine C1.out.mono ?_
    rintro e w1 ⟨rfl, k1, rfl⟩
    unfold triU
    go_wp2_with fail
    refine (C2.out k1).mono ?_
    rintro e w1 ⟨rfl, k2, rfl⟩
    unfold triS
    go_wp2_with fail
    refine (PutU_calls n _ HN0.out HN1.out).mono ?_
    rintro e w1 ⟨g1, cap1, rfl, _, _, _, hb1⟩
    have HB1 := hide hb1
    clear hb1
    go_wp2_with (go_at_call 11; refine (works_calls _).mono ?_; rintro e w3 ⟨rfl, hb⟩)
    go_ret
    exact ⟨rfl, (below_drewN (Below.refl _ _) _).trans (HB1.out.trans (hb.mono HB1.out.size))⟩

set_option maxHeartbeats 1000000 in
theorem least_ny (a : Option Addr) (len cap : Nat) (l : List Int) (p wd : Int) (w : World) (H : Row w a len cap l)
    (x : Int) (hx : (x == 0) = false) (en : Leb.readU l p wd = (0, 0, x))
    (m mx : Int) (em : Leb.readS l p wd = (m, mx, 0)) (hm0 : -9223372036854775808 ≤ m) (hm1 : m < 9223372036854775808) (s1 : ¬ mx ≤ p) (s2 : ¬ (len : Int) < mx) (s3 : ((Leb.putS m).length : Int) ≤ mx - p) (s4 : m / 2 ^ (wd.toNat - 1) = 0 ∨ m / 2 ^ (wd.toNat - 1) = -1)
    (h1 : 1 ≤ wd) (h2 : wd ≤ 64) (hp : 0 ≤ p) (hpl : p ≤ len) (hl : len ≤ 2 ^ 63 - 1) :
    Calls Try.prog 8 #[.slice a len cap, .int .i64 p, .int .i64 wd] w fun e w' => e = .returned (.bool true) ∧ Below w.heap.size w w' := by
  have c1 := U_calls a len cap l p wd w H
  rw [en] at c1
  have C1 := hide c1
  have c2 := fun k => S_calls a len cap l p wd (w.drewN k) (H.drewN k)
  rw [em] at c2
  have C2 := hide c2
  clear c1 c2 en em H
  have t1 : decide (p < 0) = false := by simp; omega
  have HM0 := hide hm0
  have HM1 := hide hm1
  clear hm0 hm1
  have r2 : decide (mx ≤ p) = false := by simp; omega
  have r3 : decide ((len : Int) < mx) = false := by simp; omega
  have r4 : decide (mx - p < ((Leb.putS m).length : Int)) = false := by simp; omega
  rcases s4 with s4 | s4
  all_goals
    go_enter Try.func8, Try.ntmps8
    go_wp2_with fail
    refine C1.out.mono ?_
    rintro e w1 ⟨rfl, k1, rfl⟩
    unfold triU
    go_wp2_with fail
    refine (C2.out k1).mono ?_
    rintro e w1 ⟨rfl, k2, rfl⟩
    unfold triS
    go_wp2_with fail
    refine (PutS_calls m _ HM0.out HM1.out).mono ?_
    rintro e w2 ⟨g2, cap2, rfl, _, _, _, hb2⟩
    have HB2 := hide hb2
    clear hb2
    go_wp2_with (go_at_call 11; refine (works_calls _).mono ?_; rintro e w3 ⟨rfl, hb⟩)
    go_ret
    exact ⟨rfl, (below_drewN (Below.refl _ _) _).trans (HB2.out.trans (hb.mono HB2.out.size))⟩

set_option maxHeartbeats 1000000 in
theorem least_yy (a : Option Addr) (len cap : Nat) (l : List Int) (p wd : Int) (w : World) (H : Row w a len cap l)
    (n nx : Int) (en : Leb.readU l p wd = (n, nx, 0)) (hn0 : 0 ≤ n) (hn1 : n < 18446744073709551616) (u1 : ¬ nx ≤ p) (u2 : ¬ (len : Int) < nx) (u3 : ((Leb.putU n).length : Int) ≤ nx - p) (u4 : (n / 2 ^ wd.toNat != 0) = false)
    (m mx : Int) (em : Leb.readS l p wd = (m, mx, 0)) (hm0 : -9223372036854775808 ≤ m) (hm1 : m < 9223372036854775808) (s1 : ¬ mx ≤ p) (s2 : ¬ (len : Int) < mx) (s3 : ((Leb.putS m).length : Int) ≤ mx - p) (s4 : m / 2 ^ (wd.toNat - 1) = 0 ∨ m / 2 ^ (wd.toNat - 1) = -1)
    (h1 : 1 ≤ wd) (h2 : wd ≤ 64) (hp : 0 ≤ p) (hpl : p ≤ len) (hl : len ≤ 2 ^ 63 - 1) :
    Calls Try.prog 8 #[.slice a len cap, .int .i64 p, .int .i64 wd] w fun e w' => e = .returned (.bool true) ∧ Below w.heap.size w w' := by
  have c1 := U_calls a len cap l p wd w H
  rw [en] at c1
  have C1 := hide c1
  have c2 := fun k => S_calls a len cap l p wd (w.drewN k) (H.drewN k)
  rw [em] at c2
  have C2 := hide c2
  clear c1 c2 en em H
  have t1 : decide (p < 0) = false := by simp; omega
  have HN0 := hide hn0
  have HN1 := hide hn1
  clear hn1
  have t2 : decide (nx ≤ p) = false := by simp; omega
  have t3 : decide ((len : Int) < nx) = false := by simp; omega
  have t4 : decide (nx - p < ((Leb.putU n).length : Int)) = false := by simp; omega
  have HM0 := hide hm0
  have HM1 := hide hm1
  clear hm0 hm1
  have r2 : decide (mx ≤ p) = false := by simp; omega
  have r3 : decide ((len : Int) < mx) = false := by simp; omega
  have r4 : decide (mx - p < ((Leb.putS m).length : Int)) = false := by simp; omega
  rcases (show decide (wd < 64) = true ∨ decide (wd < 64) = false by cases decide (wd < 64) <;> simp) with t5 | t5 <;> rcases s4 with s4 | s4
  all_goals
    go_enter Try.func8, Try.ntmps8
    go_wp2_with fail
    refine C1.out.mono ?_
    rintro e w1 ⟨rfl, k1, rfl⟩
    unfold triU
    go_wp2_with fail
    refine (C2.out k1).mono ?_
    rintro e w1 ⟨rfl, k2, rfl⟩
    unfold triS
    go_wp2_with fail
    refine (PutU_calls n _ HN0.out HN1.out).mono ?_
    rintro e w1 ⟨g1, cap1, rfl, _, _, _, hb1⟩
    have HB1 := hide hb1
    clear hb1
    go_wp2_with fail
    refine (PutS_calls m _ HM0.out HM1.out).mono ?_
    rintro e w2 ⟨g2, cap2, rfl, _, _, _, hb2⟩
    have HB2 := hide hb2
    clear hb2
    go_wp2_with (go_at_call 11; refine (works_calls _).mono ?_; rintro e w3 ⟨rfl, hb⟩)
    go_ret
    exact ⟨rfl, (below_drewN (Below.refl _ _) _).trans (HB1.out.trans ((HB2.out.trans (hb.mono HB2.out.size)).mono HB1.out.size))⟩

theorem quot_zero {n : Int} {k : Nat} (h0 : 0 ≤ n) (h : n < 2 ^ k) : (n / 2 ^ k != 0) = false := by
  rw [bne_eq_false_iff_eq]; exact Int.ediv_eq_zero_of_lt h0 h

theorem quot_sign {m : Int} {k : Nat} (h0 : -2 ^ k ≤ m) (h : m < 2 ^ k) : m / 2 ^ k = 0 ∨ m / 2 ^ k = -1 := by
  have hp := Leb.pow2_pos k
  by_cases hm : 0 ≤ m
  · left; exact Int.ediv_eq_zero_of_lt hm h
  · right
    have h1 : m / 2 ^ k < 0 := Int.ediv_neg_of_neg_of_pos (by omega) hp
    have h2 : -1 ≤ m / 2 ^ k := (Int.le_ediv_iff_mul_le hp).mpr (by omega)
    omega

theorem okU_bounds {l : List Int} {p wd : Int} {q k : Nat} (h : Leb.OkU l p wd q k) :
    0 ≤ Leb.val (l.drop q) (k + 1) ∧ Leb.val (l.drop q) (k + 1) < 18446744073709551616 ∧ (Leb.putU (Leb.val (l.drop q) (k + 1))).length ≤ k + 1 := by
  have h0 := Leb.val_nonneg (l.drop q) (k + 1)
  have h1 := Leb.val_lt (l.drop q) (k + 1)
  obtain ⟨_, h2, h3, _, _, h6⟩ := h
  have h7 := Leb.pow_mono (a := wd.toNat) (b := 64) (by omega)
  have e : (2 : Int) ^ 64 = 18446744073709551616 := by decide
  exact ⟨h0, by omega, Leb.putUF_least 9 _ k h1 h0⟩

theorem okS_bounds {l : List Int} {p wd : Int} {q k : Nat} (hb : Leb.Bytes l) (h : Leb.OkS l p wd q k) :
    -9223372036854775808 ≤ Leb.sval (l.drop q) k ∧ Leb.sval (l.drop q) k < 9223372036854775808 ∧ (Leb.putS (Leb.sval (l.drop q) k)).length ≤ k + 1 := by
  obtain ⟨_, h2, h3, _, h5, h6, h7⟩ := h
  have h63 := pow_le_64 (k := (wd - 1).toNat) (by omega)
  obtain ⟨_, hkl, hlt, _⟩ := Leb.fin_some h5
  have h0 := Leb.val_nonneg (l.drop q) k
  have h1 := Leb.val_lt (l.drop q) k
  have ht0 := (bytes_drop hb q k).1
  have e := Leb.val_succ (l.drop q) k hkl
  rw [Int.emod_eq_of_lt ht0 hlt, Int.mul_comm] at e
  have hs : -(64 * 128 ^ k) ≤ Leb.sval (l.drop q) k ∧ Leb.sval (l.drop q) k < 64 * 128 ^ k := by
    unfold Leb.sval
    rw [e, Leb.pow128_succ]
    generalize (l.drop q)[k]?.getD 0 = t at *
    have hp := Leb.pow128_pos k
    split
    · have a1 := Int.mul_le_mul_of_nonneg_left (show 64 ≤ t by omega) (Int.le_of_lt hp)
      have a2 := Int.mul_le_mul_of_nonneg_left (show t ≤ 127 by omega) (Int.le_of_lt hp)
      omega
    · have a1 := Int.mul_le_mul_of_nonneg_left (show t ≤ 63 by omega) (Int.le_of_lt hp)
      have a2 := Int.mul_nonneg (Int.le_of_lt hp) ht0
      omega
  exact ⟨by omega, by omega, Leb.putSF_least 9 _ k hs.2 hs.1⟩

theorem least_calls (a : Option Addr) (len cap : Nat) (l : List Int) (p wd : Int) (w : World) (H : Row w a len cap l) :
    Calls Try.prog 8 #[.slice a len cap, .int .i64 p, .int .i64 wd] w fun e w' => e = .returned (.bool true) ∧ Below w.heap.size w w' := by
  obtain ⟨hl, hcap, hcm, hb, _, _⟩ := id H
  unfold maxLen at hcm
  have hU : (∃ x, (x == 0) = false ∧ Leb.readU l p wd = (0, 0, x)) ∨ ∃ q k, Leb.OkU l p wd q k := by
    rcases Leb.readU_cases l p wd with e | e | e
    · exact .inl ⟨2, rfl, e⟩
    · exact .inl ⟨4, rfl, e⟩
    · exact .inr e
  have hS : (∃ x, (x == 0) = false ∧ Leb.readS l p wd = (0, 0, x)) ∨ ∃ q k, Leb.OkS l p wd q k := by
    rcases Leb.readS_cases l p wd with e | e | e
    · exact .inl ⟨2, rfl, e⟩
    · exact .inl ⟨4, rfl, e⟩
    · exact .inr e
  rcases hU with ⟨x, hx, en⟩ | ⟨q, k, ok⟩ <;> rcases hS with ⟨y, hy, em⟩ | ⟨r, j, oj⟩
  · exact least_nn a len cap l p wd w H x hx en y hy em
  · obtain ⟨b1, b2, b3⟩ := okS_bounds hb oj
    have he := oj.ends
    have em := Leb.readS_of oj
    obtain ⟨rfl, g1, g2, g3, _, g6, g7⟩ := oj
    rw [show (wd - 1).toNat = wd.toNat - 1 by omega] at g6 g7
    exact least_ny a len cap l r wd w H x hx en _ _ em b1 b2 (by omega) (by omega) (by omega) (quot_sign g6 g7) g1 g2 (by omega) (by omega) (by omega)
  · obtain ⟨c1, c2, c3⟩ := okU_bounds ok
    have hf := ok.ends
    have en := Leb.readU_of ok
    obtain ⟨rfl, f1, f2, f3, _, f6⟩ := ok
    exact least_yn a len cap l q wd w H _ _ en c1 c2 (by omega) (by omega) (by omega) (quot_zero c1 f6) y hy em f1 f2 (by omega) (by omega) (by omega)
  · obtain ⟨b1, b2, b3⟩ := okS_bounds hb oj
    have he := oj.ends
    have em := Leb.readS_of oj
    obtain ⟨hpr, g1, g2, g3, _, g6, g7⟩ := oj
    rw [show (wd - 1).toNat = wd.toNat - 1 by omega] at g6 g7
    obtain ⟨c1, c2, c3⟩ := okU_bounds ok
    have hf := ok.ends
    have en := Leb.readU_of ok
    obtain ⟨rfl, f1, f2, f3, _, f6⟩ := ok
    exact least_yy a len cap l q wd w H _ _ en c1 c2 (by omega) (by omega) (by omega) (quot_zero c1 f6) _ _ em b1 b2 (by omega) (by omega) (by omega) (quot_sign g6 g7) f1 f2 (by omega) (by omega) (by omega)
end Go.Proofs.Ytbhihlahnllpgaa
