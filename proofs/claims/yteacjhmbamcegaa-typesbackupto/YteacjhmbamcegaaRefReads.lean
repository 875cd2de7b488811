/-
  The walks of the document's 'may', 'U' and 'S'.
-/
import Derived.Test.YteacjhmbamcegaaRefNumber
import Derived.Test.YteacjhmbamcegaaLebReads
namespace Go.Proofs.Yteacjhmbamcegaa
open Go.RowKit
set_option linter.unusedVariables false

set_option maxHeartbeats 400000 in
theorem refgroups_empty (a : Option Addr) (len cap : Nat) (most : Int) (w : World) (h1 : 1 ≤ most) :
    Calls Try.prog 55 #[.slice a len cap, .int .i64 len, .int .i64 most] w fun e w' => e = .returned (.tuple #[.slice none 0 0, .bool false]) ∧ w' = w := by
  have t1 : decide (0 < most) = true := by simp; omega
  go_enter Try.func55, Try.ntmps55
  go_wp2
  go_loop [1, 8] (fun x v => x = .int .i64 len ∧ v = .slice none 0 0) (fun _ _ => 0)
  case atStart => exact ⟨rfl, rfl⟩
  case round =>
    obtain ⟨rfl, rfl⟩ := hrel
    go_wp2
    go_ret2
    exact ⟨rfl, rfl⟩

theorem refgroups_calls (a : Option Addr) (len cap : Nat) (l : List Int) (p : Nat) (most : Int) (w : World) (H : Row w a len cap l) (hp : p ≤ len) (h1 : 1 ≤ most) (h10 : most ≤ 10) :
    Calls Try.prog 55 #[.slice a len cap, .int .i64 p, .int .i64 most] w fun e w' => GroupsPost (l.drop p) most w e w' := by
  obtain ⟨hl, hcap, hcm, hb, ha, hc⟩ := H
  unfold maxLen at hcm
  by_cases hq : p < len
  · obtain ⟨b, off, rfl, hcell⟩ := hc (by omega)
    refine refgroups_walk b off len cap (l.drop p) p most w (by rw [List.length_drop, hl]) (by omega) hq h1 h10 (bytes_drop hb p) ?_
    intro i hi
    rw [hcell (p + i) (by omega), List.getElem?_drop]
  · obtain rfl : p = len := by omega
    refine (refgroups_empty a p cap most w h1).mono ?_
    rintro e w' ⟨rfl, rfl⟩
    refine ⟨Below.refl _ _, .inl ⟨?_, rfl⟩⟩
    exact Leb.fin_none (k := 0) (.inr (by simp [hl])) (by intro i hi; omega) (Nat.zero_le _) (Nat.zero_le _)

set_option maxHeartbeats 400000 in
theorem may_yes (a : Option Addr) (len cap p : Nat) (wd : Int) (w : World) (h1 : 1 ≤ wd) (h2 : wd ≤ 64) (h4 : p ≤ len) :
    Calls Try.prog 54 #[.slice a len cap, .int .i64 p, .int .i64 wd] w fun e w' => e = .returned (.bool true) ∧ w' = w := by
  have t1 : decide (1 ≤ wd) = true := by simp; omega
  have t2 : decide (wd ≤ 64) = true := by simp; omega
  have t3 : decide (0 ≤ (p : Int)) = true := by simp
  have t4 : decide ((p : Int) ≤ len) = true := by simp; omega
  go_enter Try.func54, Try.ntmps54
  go_wp2
  go_ret
  exact ⟨rfl, rfl⟩

set_option maxHeartbeats 400000 in
theorem may_no (a : Option Addr) (len cap : Nat) (p wd : Int) (w : World) (h : wd < 1 ∨ 64 < wd ∨ p < 0 ∨ (len : Int) < p) :
    Calls Try.prog 54 #[.slice a len cap, .int .i64 p, .int .i64 wd] w fun e w' => e = .returned (.bool false) ∧ w' = w := by
  by_cases t1 : wd < 1
  · have u1 : decide (1 ≤ wd) = false := by simp; omega
    clear h
    go_enter Try.func54, Try.ntmps54
    go_wp2
    go_ret
    exact ⟨rfl, rfl⟩
  have u1 : decide (1 ≤ wd) = true := by simp; omega
  by_cases t2 : 64 < wd
  · have u2 : decide (wd ≤ 64) = false := by simp; omega
    clear h
    go_enter Try.func54, Try.ntmps54
    go_wp2
    go_ret
    exact ⟨rfl, rfl⟩
  have u2 : decide (wd ≤ 64) = true := by simp; omega
  by_cases t3 : p < 0
  · have u3 : decide (0 ≤ p) = false := by simp; omega
    clear h
    go_enter Try.func54, Try.ntmps54
    go_wp2
    go_ret
    exact ⟨rfl, rfl⟩
  · have u3 : decide (0 ≤ p) = true := by simp; omega
    have u4 : decide (p ≤ (len : Int)) = false := by simp; omega
    clear h
    go_enter Try.func54, Try.ntmps54
    go_wp2
    go_ret
    exact ⟨rfl, rfl⟩

theorem maxOf (wd : Int) (h1 : 1 ≤ wd) (h2 : wd ≤ 64) : (18446744073709551615 : Int) / 2 ^ (64 - wd).toNat = 2 ^ wd.toNat - 1 := by
  obtain ⟨n, rfl⟩ := Int.eq_ofNat_of_zero_le (show 0 ≤ wd by omega)
  have all : ∀ m : Fin 65, (18446744073709551615 : Int) / 2 ^ (64 - ((m.val : Nat) : Int)).toNat = 2 ^ ((m.val : Nat) : Int).toNat - 1 := by decide +kernel
  exact all ⟨n, by omega⟩

theorem refU_bad (a : Option Addr) (len cap : Nat) (p wd : Int) (w : World) (h : wd < 1 ∨ 64 < wd ∨ p < 0 ∨ (len : Int) < p) :
    Calls Try.prog 49 #[.slice a len cap, .int .i64 p, .int .i64 wd] w fun e w' => e = .returned (triU (0, 0, 2)) ∧ Below w.heap.size w w' := by
  have C := hide (may_no a len cap p wd w h)
  clear h
  go_enter Try.func49, Try.ntmps49
  go_wp2_with fail
  refine C.out.mono ?_
  rintro e w' ⟨rfl, rfl⟩
  go_wp2
  go_ret3
  exact ⟨rfl, Below.refl _ _⟩

set_option maxHeartbeats 400000 in
theorem refU_walk (a : Option Addr) (len cap p : Nat) (l : List Int) (wd : Int) (w : World) (H : Row w a len cap l) (h1 : 1 ≤ wd) (h2 : wd ≤ 64) (h4 : p ≤ len) :
    Calls Try.prog 49 #[.slice a len cap, .int .i64 p, .int .i64 wd] w fun e w' => e = .returned (triU (Leb.readU l p wd)) ∧ Below w.heap.size w w' := by
  have C1 := hide (may_yes a len cap p wd w h1 h2 h4)
  have C2 := hide (refgroups_calls a len cap l p ((wd + 6) / 7) w H h4 (by omega) (by omega))
  obtain ⟨hl, _, hcm, hb, _, _⟩ := H
  unfold maxLen at hcm
  go_enter Try.func49, Try.ntmps49
  go_wp2_with fail
  refine C1.out.mono ?_
  rintro e w' ⟨rfl, rfl⟩
  go_wp2_with fail
  refine C2.out.mono ?_
  rintro e w1 ⟨hbel, ⟨hfin, rfl⟩ | ⟨k, v, hfin, rfl, hown⟩⟩
  · have HF := hide hfin
    have HB := hide hbel
    clear hfin hbel
    go_wp2
    go_ret3
    exact ⟨by rw [Leb.readU_none h1 h2 (by omega) HF.out]; rfl, HB.out⟩
  · obtain ⟨hk1, hk2, _, _⟩ := Leb.fin_some hfin
    have hll := Leb.low_length (l.drop p) (k + 1) (by omega)
    obtain ⟨g, c, rfl, hg, hgc, hcells⟩ := own_slice64 hll hown (by omega)
    have HF := hide hfin
    have HB := hide hbel
    have HCE := hide hcells
    have HLL := hide hll
    clear hfin hbel hown hcells hll
    have hdv := Leb.dval_low (l.drop p) (k + 1) (by omega)
    have hM := maxOf wd h1 h2
    have hpow := Leb.pow2_pos wd.toNat
    have hpow64 := Leb.pow_mono (a := wd.toNat) (b := 64) (by omega)
    have e64 : (2 : Int) ^ 64 = 18446744073709551616 := by decide
    have hN := number_walk g 0 (k + 1) c _ (18446744073709551615 / 2 ^ (64 - wd).toNat) w1 HLL.out (by omega) (Leb.low_digits _ _) (by omega) (by omega) HCE.out
    have hRd := Leb.readU_some h1 h2 (by omega) HF.out
    have HPL : Hid (p + (k + 1) ≤ len) := by show p + (k + 1) ≤ len; rw [List.length_drop] at hk2; omega
    by_cases hfit : Leb.val (l.drop p) (k + 1) < 2 ^ wd.toNat
    · rw [if_pos hfit] at hRd
      have hnb : numb (Leb.low (l.drop p) (k + 1)) (18446744073709551615 / 2 ^ (64 - wd).toNat) = .tuple #[.int .u64 (Leb.val (l.drop p) (k + 1)), .bool true] := by
        unfold numb; rw [hdv, if_pos (by omega)]
      rw [hnb] at hN
      have HN := hide hN
      have HRd := hide hRd
      have hpl := HPL.out
      clear hN hRd hnb hM hpow hpow64 e64 hfit hdv hk2 HCE HLL
      generalize Leb.val (l.drop p) (k + 1) = N at *
      go_wp2_with fail
      refine HN.out.mono ?_
      rintro e w2 ⟨rfl, rfl⟩
      go_wp2
      go_ret3
      exact ⟨by rw [HRd.out]; simp [triU]; omega, HB.out⟩
    · rw [if_neg hfit] at hRd
      have hnb : numb (Leb.low (l.drop p) (k + 1)) (18446744073709551615 / 2 ^ (64 - wd).toNat) = .tuple #[.int .u64 0, .bool false] := by
        unfold numb; rw [hdv, if_neg (by omega)]
      rw [hnb] at hN
      have HN := hide hN
      have HRd := hide hRd
      clear hN hRd hnb hM hpow hpow64 e64 hfit hdv hk2 HCE HLL
      go_wp2_with fail
      refine HN.out.mono ?_
      rintro e w2 ⟨rfl, rfl⟩
      go_wp2
      go_ret3
      exact ⟨by rw [HRd.out]; rfl, HB.out⟩

/-- The document's 'U' answers 'readU'. -/
theorem refU_calls (a : Option Addr) (len cap : Nat) (l : List Int) (p wd : Int) (w : World) (H : Row w a len cap l) :
    Calls Try.prog 49 #[.slice a len cap, .int .i64 p, .int .i64 wd] w fun e w' => e = .returned (triU (Leb.readU l p wd)) ∧ Below w.heap.size w w' := by
  by_cases hbad : wd < 1 ∨ 64 < wd ∨ p < 0 ∨ (len : Int) < p
  · rw [(Leb.read_bad (l := l) (p := p) (wd := wd) (by rw [H.1]; exact hbad)).1]
    exact refU_bad a len cap p wd w hbad
  · obtain ⟨q, rfl⟩ := Int.eq_ofNat_of_zero_le (show 0 ≤ p by omega)
    exact refU_walk a len cap q l wd w H (by omega) (by omega) (by omega)
end Go.Proofs.Yteacjhmbamcegaa
