/-
  The walks of 'leb.U' and 'leb.S'.
-/
import Derived.Test.YteacjhmbamcegabLebGroups
import Derived.Laws.Shifts
namespace Go.Proofs.Yteacjhmbamcegab
open Go.RowKit
set_option linter.unusedVariables false

def triU (r : Int × Int × Int) : Value := .tuple #[.int .u64 r.1, .int .i64 r.2.1, .int .i64 r.2.2]
def triS (r : Int × Int × Int) : Value := .tuple #[.int .i64 r.1, .int .i64 r.2.1, .int .i64 r.2.2]

theorem U_err (a : Option Addr) (len cap : Nat) (l : List Int) (p wd x : Int) (w : World) (H : Row w a len cap l) (hx : x = 2 ∨ x = 4)
    (hg : grp l p wd = .tuple #[.int .u64 0, .int .u8 0, .int .i64 0, .int .i64 x]) :
    Calls Try.prog 29 #[.slice a len cap, .int .i64 p, .int .i64 wd] w fun e w' => e = .returned (triU (0, 0, x)) ∧ ∃ n, w' = w.drewN n := by
  have hc := groups_calls a len cap l p wd w H
  rw [hg] at hc
  have HC : Hid (Calls Try.prog 32 #[.slice a len cap, .int .i64 p, .int .i64 wd] w fun e w' => e = .returned (.tuple #[.int .u64 0, .int .u8 0, .int .i64 0, .int .i64 x]) ∧ ∃ n, w' = w.drewN n) := hc
  have hx0 : (x != 0) = true := by rcases hx with rfl | rfl <;> rfl
  clear hc hg H hx
  go_enter Try.func29, Try.ntmps29
  go_wp2_with (go_at_call 32; go_must (refine HC.out.mono ?_; rintro e w' ⟨rfl, n, rfl⟩))
  go_ret3
  exact ⟨rfl, _, rfl⟩

theorem U_yes (a : Option Addr) (len cap : Nat) (l : List Int) (p k s : Nat) (v t : Int) (w : World) (H : Row w a len cap l)
    (hg : grp l p (7 * k + s) = .tuple #[.int .u64 v, .int .u8 t, .int .i64 (k + 1), .int .i64 0]) (hk : 7 * (k : Int) + s ≤ 64) (ht0 : 0 ≤ t) (ht : t < 128) (hp : p + (k + 1) ≤ len) (hm : len ≤ 2 ^ 63 - 1)
    (hq : (t / 2 ^ min s 8 != 0) = false) :
    Calls Try.prog 29 #[.slice a len cap, .int .i64 p, .int .i64 (7 * k + s)] w fun e w' => e = .returned (triU (bits .or .u64 v (IntKind.u64.wrap (t * 2 ^ (7 * k))), p + (k + 1), 0)) ∧ ∃ n, w' = w.drewN n := by
  have hc := groups_calls a len cap l p (7 * k + s) w H
  rw [hg] at hc
  have HC : Hid (Calls Try.prog 32 #[.slice a len cap, .int .i64 p, .int .i64 (7 * k + s)] w fun e w' => e = .returned (.tuple #[.int .u64 v, .int .u8 t, .int .i64 (k + 1), .int .i64 0]) ∧ ∃ n, w' = w.drewN n) := hc
  have he : 7 * (k : Int) + s - 7 * k = s := by omega
  clear hc hg H
  go_enter Try.func29, Try.ntmps29
  go_wp2_with (go_at_call 32; refine HC.out.mono ?_; rintro e w' ⟨rfl, n, rfl⟩)
  go_ret3
  exact ⟨rfl, _, rfl⟩

theorem U_no (a : Option Addr) (len cap : Nat) (l : List Int) (p k s : Nat) (v t : Int) (w : World) (H : Row w a len cap l)
    (hg : grp l p (7 * k + s) = .tuple #[.int .u64 v, .int .u8 t, .int .i64 (k + 1), .int .i64 0]) (hk : 7 * (k : Int) + s ≤ 64) (ht0 : 0 ≤ t) (ht : t < 128) (hp : p + (k + 1) ≤ len) (hm : len ≤ 2 ^ 63 - 1)
    (hq : (t / 2 ^ min s 8 != 0) = true) :
    Calls Try.prog 29 #[.slice a len cap, .int .i64 p, .int .i64 (7 * k + s)] w fun e w' => e = .returned (triU (0, 0, 4)) ∧ ∃ n, w' = w.drewN n := by
  have hc := groups_calls a len cap l p (7 * k + s) w H
  rw [hg] at hc
  have HC : Hid (Calls Try.prog 32 #[.slice a len cap, .int .i64 p, .int .i64 (7 * k + s)] w fun e w' => e = .returned (.tuple #[.int .u64 v, .int .u8 t, .int .i64 (k + 1), .int .i64 0]) ∧ ∃ n, w' = w.drewN n) := hc
  have he : 7 * (k : Int) + s - 7 * k = s := by omega
  clear hc hg H
  go_enter Try.func29, Try.ntmps29
  go_wp2_with (go_at_call 32; refine HC.out.mono ?_; rintro e w' ⟨rfl, n, rfl⟩)
  go_ret3
  exact ⟨rfl, _, rfl⟩

theorem triU_eq {x y : Int × Int × Int} (h : x = y) : Ending.returned (triU x) = .returned (triU y) := by rw [h]
theorem triS_eq {x y : Int × Int × Int} (h : x = y) : Ending.returned (triS x) = .returned (triS y) := by rw [h]

/-- What 'grp' says, put apart: an error; or the digits' end. -/
theorem grp_parts (l : List Int) (p wd : Int) (hb : Leb.Bytes l) :
    ((wd < 1 ∨ 64 < wd ∨ p < 0 ∨ (l.length : Int) < p) ∧ grp l p wd = .tuple #[.int .u64 0, .int .u8 0, .int .i64 0, .int .i64 2] ∧ Leb.readU l p wd = (0, 0, 2) ∧ Leb.readS l p wd = (0, 0, 2)) ∨
    (grp l p wd = .tuple #[.int .u64 0, .int .u8 0, .int .i64 0, .int .i64 4] ∧ Leb.readU l p wd = (0, 0, 4) ∧ Leb.readS l p wd = (0, 0, 4)) ∨
    ∃ q k s : Nat, p = q ∧ wd = 7 * k + (s + 1) ∧ 7 * (k : Int) + (s + 1) ≤ 64 ∧ q + (k + 1) ≤ l.length ∧ k < (l.drop q).length ∧ 0 ≤ (l.drop q)[k]?.getD 0 ∧ (l.drop q)[k]?.getD 0 < 128 ∧
      grp l p wd = .tuple #[.int .u64 (Leb.val (l.drop q) k), .int .u8 ((l.drop q)[k]?.getD 0), .int .i64 (k + 1), .int .i64 0] ∧
      Leb.readU l p wd = (if Leb.val (l.drop q) (k + 1) < 2 ^ (7 * k + (s + 1)) then (Leb.val (l.drop q) (k + 1), (q : Int) + ((k : Int) + 1), (0 : Int)) else (0, 0, 4)) ∧
      Leb.readS l p wd = (if -2 ^ (7 * k + s) ≤ Leb.sval (l.drop q) k ∧ Leb.sval (l.drop q) k < 2 ^ (7 * k + s) then (Leb.sval (l.drop q) k, (q : Int) + ((k : Int) + 1), (0 : Int)) else (0, 0, 4)) := by
  by_cases hbad : wd < 1 ∨ 64 < wd ∨ p < 0 ∨ (l.length : Int) < p
  · exact .inl ⟨hbad, grp_bad hbad, by unfold Leb.readU; rw [if_pos hbad], by unfold Leb.readS; rw [if_pos hbad]⟩
  · right
    obtain ⟨q, rfl⟩ := Int.eq_ofNat_of_zero_le (show 0 ≤ p by omega)
    cases hf : Leb.fin (l.drop q) ((wd + 6) / 7).toNat with
    | none => exact .inl ⟨by unfold grp; rw [if_neg hbad, Int.toNat_natCast, hf], by unfold Leb.readU; rw [if_neg hbad, Int.toNat_natCast, hf], by unfold Leb.readS; rw [if_neg hbad, Int.toNat_natCast, hf]⟩
    | some k =>
      right
      obtain ⟨hk, hl, ht, _⟩ := Leb.fin_some hf
      obtain ⟨s, hs⟩ := Int.eq_ofNat_of_zero_le (show 0 ≤ wd - 7 * k - 1 by omega)
      have hwd : wd = 7 * k + (s + 1) := by omega
      have hl' := hl
      rw [List.length_drop] at hl'
      refine ⟨q, k, s, rfl, hwd, by omega, by omega, hl, (bytes_drop hb q k).1, ht, by unfold grp; rw [if_neg hbad, Int.toNat_natCast, hf], ?_, ?_⟩
      · unfold Leb.readU
        rw [if_neg hbad, Int.toNat_natCast, hf, show wd.toNat = 7 * k + (s + 1) by omega]
        show (if _ then (_, (q : Int) + k + 1, (0 : Int)) else _) = _
        rw [Int.add_assoc]
      · unfold Leb.readS
        rw [if_neg hbad, Int.toNat_natCast, hf, show (wd - 1).toNat = 7 * k + s by omega]
        show (if _ then (_, (q : Int) + k + 1, (0 : Int)) else _) = _
        rw [Int.add_assoc]

/-- 'leb.U' answers 'readU', and changes nothing. -/
theorem U_calls (a : Option Addr) (len cap : Nat) (l : List Int) (p wd : Int) (w : World) (H : Row w a len cap l) :
    Calls Try.prog 29 #[.slice a len cap, .int .i64 p, .int .i64 wd] w fun e w' => e = .returned (triU (Leb.readU l p wd)) ∧ ∃ n, w' = w.drewN n := by
  obtain ⟨hl, hcap, hcm, hb, ha, hc⟩ := id H
  rcases grp_parts l p wd hb with ⟨_, hg, hU, _⟩ | ⟨hg, hU, _⟩ | ⟨q, k, s, rfl, rfl, hk, hq, hkl, ht0, ht1, hg, hU, _⟩
  · rw [hU]; exact U_err a len cap l p wd 2 w H (.inl rfl) hg
  · rw [hU]; exact U_err a len cap l p wd 4 w H (.inr rfl) hg
  · have hv0 := Leb.val_nonneg (l.drop q) k
    have hv1 := Leb.val_lt (l.drop q) k
    have hvs := Leb.val_succ (l.drop q) k hkl
    rw [Int.emod_eq_of_lt ht0 ht1, ← Leb.pow7, Int.mul_comm] at hvs
    rw [← Leb.pow7] at hv1
    have hiff : Leb.val (l.drop q) (k + 1) < 2 ^ (7 * k + (s + 1)) ↔ (l.drop q)[k]?.getD 0 < 2 ^ (s + 1) := by
      rw [hvs, Int.pow_add]; exact below_iff hv0 hv1
    have hz := shr_zero_iff ((l.drop q)[k]?.getD 0) (s + 1) ht0 ht1
    rw [hU]
    unfold maxLen at hcm
    by_cases hlt : Leb.val (l.drop q) (k + 1) < 2 ^ (7 * k + (s + 1))
    · rw [if_pos hlt]
      have h64 : Leb.val (l.drop q) (k + 1) < 18446744073709551616 := by
        have h1 : (2 : Nat) ^ (7 * k + (s + 1)) ≤ 2 ^ 64 := Nat.pow_le_pow_right (by decide) (by omega)
        have h2 : ((2 ^ (7 * k + (s + 1)) : Nat) : Int) ≤ ((2 ^ 64 : Nat) : Int) := by exact_mod_cast h1
        simp at h2
        omega
      refine (U_yes a len cap l q k (s + 1) _ _ w H hg (by omega) ht0 ht1 (by omega) (by omega) (by rw [bne_eq_false_iff_eq]; exact hz.mpr (hiff.mp hlt))).mono ?_
      rintro e w' ⟨rfl, hw⟩
      refine ⟨triU_eq ?_, hw⟩
      rw [or_U (l.drop q) k hkl ht0 ht1 h64]
    · rw [if_neg hlt]
      exact U_no a len cap l q k (s + 1) _ _ w H hg (by omega) ht0 ht1 (by omega) (by omega) (by rw [bne_iff_ne]; exact fun h => hlt (hiff.mpr (hz.mp h)))

end Go.Proofs.Yteacjhmbamcegab
