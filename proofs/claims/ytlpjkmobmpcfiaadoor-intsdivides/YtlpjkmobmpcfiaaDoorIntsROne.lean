/-
  The document's One.
-/
import Derived.Test.YtlpjkmobmpcfiaaDoorIntsOne
import Derived.Test.YtlpjkmobmpcfiaaDoorIntsRTwo
set_option linter.unusedVariables false
set_option linter.unusedSimpArgs false
namespace Go.Proofs.YtlpjkmobmpcfiaaDoor
open Go.RowKit Ints

/-- All at and above the bit are 0, and it is 0 too. -/
theorem below_bit (x i : Nat) (h : x < 2 ^ (i + 1)) (hb : bit x i = 0) : x < 2 ^ i := by
  have h1 := mod_succ x i
  rw [hb, Nat.mod_eq_of_lt h] at h1
  have := Nat.mod_lt x (Nat.two_pow_pos i)
  omega

theorem at_bit (x i : Nat) (h : x < 2 ^ (i + 1)) (hi : i < 64) (hb : bit x i = 1) : Lib.bitLen x = i + 1 := by
  refine len_at x i hi ?_ h
  have h1 := mod_succ x i
  rw [hb, Nat.mod_eq_of_lt h] at h1
  omega

theorem mod_bit (x i : Nat) (h : x % 2 ^ i = 0) (hb : bit x i = 0) : x % 2 ^ (i + 1) = 0 := by rw [mod_succ, h, hb]; rfl

/-! The operators, one by one -/

set_option maxRecDepth 100000 in
set_option maxHeartbeats 2000000 in
theorem rone_26 {w : Nat} (hw : IsW w) (a : Int) (ha : Of w a) (W : World) :
    Calls Tryd.prog 13 #[.int .u8 26, .int .i64 (w : Int), .int .u64 a] W fun e W' => e = .returned (pairV (one 26 w a)) ∧ W' = W := by
  have CW := width_calls (w : Int)
  rw [isW_of hw] at CW
  have CW := hide CW
  have FA := rfits_calls hw a
  rw [decide_eq_true (mo_ge ha)] at FA
  have FA := hide FA
  have hle := hw.le
  have hpos := hw.pos
  have HA := hide (ha.lt64 hw)
  obtain ⟨x, rfl, hx⟩ := nat_of ha
  have HX := hide hx
  have HB := hide (and_bit x (by have := HA.out; omega))
  clear ha hx hw
  go_enter Tryd.func13, Tryd.ntmps13
  go_wp2_with (first | (with_reducible refine (CW.out _).mono ?_; rintro e w1 ⟨rfl, rfl⟩) | (with_reducible refine (FA.out _).mono ?_; rintro e w1 ⟨rfl, rfl⟩))
  go_loop [8, 9] (fun u v => ∃ c : Nat, u = .int .u64 (c : Int) ∧ v = .int .i64 ((w : Int) - 1 - (c : Int)) ∧ c ≤ w ∧ x < 2 ^ (w - c)) (fun u _ => (w - (intOf u).toNat))
  case atStart => exact ⟨0, rfl, by simp, by omega, HX.out⟩
  case round =>
    obtain ⟨c, rfl, rfl, hc, hlt⟩ := hrel
    have HL := hide hlt
    clear hlt
    by_cases c1 : c < w
    · obtain ⟨j, rfl⟩ : ∃ j, w = c + 1 + j := ⟨w - c - 1, by omega⟩
      have e1 : ((c + 1 + j : Nat) : Int) - 1 - (c : Int) = (j : Int) := by omega
      rw [e1]
      have hb := HB.out j
      have hj : (j : Int) ≤ 64 := by omega
      have hj0 : (0 : Int) ≤ (j : Int) := by omega
      rcases (show bit x j = 0 ∨ bit x j = 1 by have := bit_le x j; omega) with b | b
      · rw [b] at hb
        have N := hide (show x < 2 ^ j from below_bit x j (by have := HL.out; rwa [show c + 1 + j - c = j + 1 by omega] at this) b)
        clear b
        go_wp2
        refine ⟨⟨c + 1, rfl, ?_, by omega, ?_⟩, by simp [intOf]; omega⟩
        · simp only [Value.int.injEq, true_and]; omega
        · have := N.out; rwa [show c + 1 + j - (c + 1) = j by omega]
      · rw [b] at hb
        have N := hide (at_bit x j (by have := HL.out; rwa [show c + 1 + j - c = j + 1 by omega] at this) (by omega) b)
        clear b
        go_wp2
        refine bodyPost_ret (v := .tuple #[.int .u64 (c : Int), .int .i64 0]) (by simp [results, Tryd.results13, go_sem]) rfl ?_
        exact ⟨congrArg (fun z => Ending.returned (.tuple #[.int .u64 z, .int .i64 0])) (show (c : Int) = ((c + 1 + j : Nat) : Int) - (Lib.bitLen ((x : Int).toNat) : Int) by rw [Int.toNat_natCast, N.out]; omega), rfl⟩
    · obtain rfl : c = w := by omega
      have e1 : (c : Int) - 1 - (c : Int) = -1 := by omega
      rw [e1]
      go_wp2
      refine bodyPost_ret (v := .tuple #[.int .u64 (c : Int), .int .i64 0]) (by simp [results, Tryd.results13, go_sem]) rfl ?_
      have h0 : x = 0 := by have := HL.out; rw [Nat.sub_self] at this; omega
      subst h0
      exact ⟨congrArg (fun z => Ending.returned (.tuple #[.int .u64 z, .int .i64 0])) (show (c : Int) = (c : Int) - (Lib.bitLen (((0 : Nat) : Int).toNat) : Int) by rw [Int.toNat_natCast, len_zero]; omega), rfl⟩

set_option maxRecDepth 100000 in
set_option maxHeartbeats 2000000 in
theorem rone_27 {w : Nat} (hw : IsW w) (a : Int) (ha : Of w a) (W : World) :
    Calls Tryd.prog 13 #[.int .u8 27, .int .i64 (w : Int), .int .u64 a] W fun e W' => e = .returned (pairV (one 27 w a)) ∧ W' = W := by
  have CW := width_calls (w : Int)
  rw [isW_of hw] at CW
  have CW := hide CW
  have FA := rfits_calls hw a
  rw [decide_eq_true (mo_ge ha)] at FA
  have FA := hide FA
  have hle := hw.le
  have hpos := hw.pos
  have HA := hide (ha.lt64 hw)
  obtain ⟨x, rfl, hx⟩ := nat_of ha
  have HX := hide hx
  have HB := hide (and_bit x (by have := HA.out; omega))
  clear ha hx hw
  go_enter Tryd.func13, Tryd.ntmps13
  go_wp2_with (first | (with_reducible refine (CW.out _).mono ?_; rintro e w1 ⟨rfl, rfl⟩) | (with_reducible refine (FA.out _).mono ?_; rintro e w1 ⟨rfl, rfl⟩))
  go_loop [8, 10] (fun u v => ∃ c : Nat, u = .int .u64 (c : Int) ∧ v = .int .i64 (c : Int) ∧ c ≤ w ∧ x % 2 ^ c = 0) (fun u _ => (w - (intOf u).toNat))
  case atStart => exact ⟨0, rfl, rfl, by omega, Nat.mod_one x⟩
  case round =>
    obtain ⟨c, rfl, rfl, hc, hlt⟩ := hrel
    have HL := hide hlt
    clear hlt
    by_cases c1 : c < w
    · have hb := HB.out c
      have hj : (c : Int) ≤ 64 := by omega
      have hj0 : (c : Int) < (w : Int) := by omega
      rcases (show bit x c = 0 ∨ bit x c = 1 by have := bit_le x c; omega) with b | b
      · rw [b] at hb
        have N := hide (mod_bit x c HL.out b)
        clear b
        go_wp2
        refine ⟨⟨c + 1, rfl, rfl, by omega, N.out⟩, by simp [intOf]; omega⟩
      · rw [b] at hb
        have N := hide (ctz_bit 64 c x (by have := HA.out; omega) HL.out b)
        clear b
        go_wp2
        refine bodyPost_ret (v := .tuple #[.int .u64 (c : Int), .int .i64 0]) (by simp [results, Tryd.results13, go_sem]) rfl ?_
        exact ⟨congrArg (fun z => Ending.returned (.tuple #[.int .u64 z, .int .i64 0])) (show (c : Int) = min (tzI (x : Int)) (w : Int) by unfold tzI; rw [Int.toNat_natCast, N.out]; omega), rfl⟩
    · obtain rfl : c = w := by omega
      have c' : decide ((c : Int) < (c : Int)) = false := by simp
      go_wp2
      refine bodyPost_ret (v := .tuple #[.int .u64 (c : Int), .int .i64 0]) (by simp [results, Tryd.results13, go_sem]) rfl ?_
      have h0 : x = 0 := by
        have h1 := HL.out
        rw [Nat.mod_eq_of_lt HX.out] at h1
        exact h1
      subst h0
      exact ⟨congrArg (fun z => Ending.returned (.tuple #[.int .u64 z, .int .i64 0])) (show (c : Int) = min (tzI ((0 : Nat) : Int)) (c : Int) by unfold tzI; rw [Int.toNat_natCast, show Lib.ctz 64 0 = 64 from rfl]; omega), rfl⟩

set_option maxRecDepth 100000 in
set_option maxHeartbeats 2000000 in
theorem rone_28 {w : Nat} (hw : IsW w) (a : Int) (ha : Of w a) (W : World) :
    Calls Tryd.prog 13 #[.int .u8 28, .int .i64 (w : Int), .int .u64 a] W fun e W' => e = .returned (pairV (one 28 w a)) ∧ W' = W := by
  have CW := width_calls (w : Int)
  rw [isW_of hw] at CW
  have CW := hide CW
  have FA := rfits_calls hw a
  rw [decide_eq_true (mo_ge ha)] at FA
  have FA := hide FA
  have hle := hw.le
  have hpos := hw.pos
  have HA := hide (ha.lt64 hw)
  obtain ⟨x, rfl, hx⟩ := nat_of ha
  have HX := hide hx
  have HB := hide (and_bit x (by have := HA.out; omega))
  have HP := hide (ones_eq w x hle hx)
  clear ha hx hw
  go_enter Tryd.func13, Tryd.ntmps13
  go_wp2_with (first | (with_reducible refine (CW.out _).mono ?_; rintro e w1 ⟨rfl, rfl⟩) | (with_reducible refine (FA.out _).mono ?_; rintro e w1 ⟨rfl, rfl⟩))
  go_loop [8, 11] (fun u v => ∃ c : Nat, v = .int .i64 (c : Int) ∧ c ≤ w ∧ u = .int .u64 ((Lib.popAux c x : Nat) : Int)) (fun _ v => (w - (intOf v).toNat))
  case atStart => exact ⟨0, rfl, by omega, rfl⟩
  case round =>
    obtain ⟨c, rfl, hc, rfl⟩ := hrel
    by_cases c1 : c < w
    · have hb := HB.out c
      have hj : (c : Int) ≤ 64 := by omega
      have hj0 : (c : Int) < (w : Int) := by omega
      have N := hide (pop_succ c x)
      have N2 := hide (pop_le c x)
      have E : IntKind.u64.wrap (((Lib.popAux c x : Nat) : Int) + ((bit x c : Nat) : Int)) = ((Lib.popAux (c + 1) x : Nat) : Int) := by
        have := pop_succ c x; have := pop_le (c + 1) x
        rw [IntKind.wrap_u64]; omega
      generalize Lib.popAux c x = q at *
      generalize bit x c = b at *
      go_wp2
      exact ⟨⟨c + 1, rfl, by omega, rfl⟩, by simp [intOf]; omega⟩
    · obtain rfl : c = w := by omega
      have c' : decide ((c : Int) < (c : Int)) = false := by simp
      generalize hq : Lib.popAux c x = q at *
      have HQ := hide hq
      clear hq
      go_wp2
      refine bodyPost_ret (v := .tuple #[.int .u64 (q : Int), .int .i64 0]) (by simp [results, Tryd.results13, go_sem]) rfl ?_
      exact ⟨congrArg (fun z => Ending.returned (.tuple #[.int .u64 z, .int .i64 0])) (show (q : Int) = pcI (x : Int) by unfold pcI; rw [Int.toNat_natCast, HP.out]), rfl⟩

set_option maxRecDepth 100000 in
set_option maxHeartbeats 2000000 in
theorem rone_29 {w : Nat} (hw : IsW w) (a : Int) (ha : Of w a) (W : World) :
    Calls Tryd.prog 13 #[.int .u8 29, .int .i64 (w : Int), .int .u64 a] W fun e W' => e = .returned (pairV (one 29 w a)) ∧ W' = W := by
  have CW := width_calls (w : Int)
  rw [isW_of hw] at CW
  have CW := hide CW
  have FA := rfits_calls hw a
  rw [decide_eq_true (mo_ge ha)] at FA
  have FA := hide FA
  have CM := hide (@rmost_calls w hw)
  have E := half_mo hw
  have E2 := and_wrap hw (IntKind.u64.wrap (mo w - a) + 1)
  by_cases c : a ≤ hi w
  · have G := hide (show absI w a = a by unfold absI; rw [if_pos c])
    clear ha
    have c' : decide (a > hi w) = false := by simp; omega
    go_enter Tryd.func13, Tryd.ntmps13
    go_wp2_with (first | (with_reducible refine (CW.out _).mono ?_; rintro e w1 ⟨rfl, rfl⟩) | (with_reducible refine (FA.out _).mono ?_; rintro e w1 ⟨rfl, rfl⟩) | (with_reducible refine (CM.out _).mono ?_; rintro e w1 ⟨rfl, rfl⟩))
    refine bodyPost_ret (v := .tuple #[.int .u64 a, .int .i64 0]) (by simp [results, Tryd.results13, go_sem]) rfl ?_
    exact ⟨congrArg (fun z => Ending.returned (.tuple #[.int .u64 z, .int .i64 0])) (show a = absI w a by rw [G.out]), rfl⟩
  · have G := hide (show (cutI w (IntKind.u64.wrap (mo w - a) + 1)) = absI w a by
      obtain ⟨h0, h1⟩ := ha
      unfold absI
      rw [if_neg c, IntKind.wrap_u64]
      rcases hw with rfl | rfl | rfl | rfl <;> simp only [cutI, mo, hi, Nat.reduceSub, Int.reducePow] at h1 c ⊢ <;> omega)
    clear ha
    have c' : decide (a > hi w) = true := by simp; omega
    go_enter Tryd.func13, Tryd.ntmps13
    go_wp2_with (first | (with_reducible refine (CW.out _).mono ?_; rintro e w1 ⟨rfl, rfl⟩) | (with_reducible refine (FA.out _).mono ?_; rintro e w1 ⟨rfl, rfl⟩) | (with_reducible refine (CM.out _).mono ?_; rintro e w1 ⟨rfl, rfl⟩))
    refine bodyPost_ret (v := .tuple #[.int .u64 (cutI w (IntKind.u64.wrap (mo w - a) + 1)), .int .i64 0]) (by simp [results, Tryd.results13, go_sem]) rfl ?_
    exact ⟨by rw [G.out]; rfl, rfl⟩

set_option maxRecDepth 100000 in
set_option maxHeartbeats 2000000 in
theorem rone_30 {w : Nat} (hw : IsW w) (a : Int) (ha : Of w a) (W : World) :
    Calls Tryd.prog 13 #[.int .u8 30, .int .i64 (w : Int), .int .u64 a] W fun e W' => e = .returned (pairV (one 30 w a)) ∧ W' = W := by
  have CW := width_calls (w : Int)
  rw [isW_of hw] at CW
  have CW := hide CW
  have FA := rfits_calls hw a
  rw [decide_eq_true (mo_ge ha)] at FA
  have FA := hide FA
  have CM := hide (@rmost_calls w hw)
  have E2 := and_wrap hw (IntKind.u64.wrap (mo w - a) + 1)
  have G := hide (show (cutI w (IntKind.u64.wrap (mo w - a) + 1)) = cutI w (-a) by
    obtain ⟨h0, h1⟩ := ha
    rw [IntKind.wrap_u64]
    rcases hw with rfl | rfl | rfl | rfl <;> simp only [cutI, mo, Int.reducePow] at h1 ⊢ <;> omega)
  clear ha
  go_enter Tryd.func13, Tryd.ntmps13
  go_wp2_with (first | (with_reducible refine (CW.out _).mono ?_; rintro e w1 ⟨rfl, rfl⟩) | (with_reducible refine (FA.out _).mono ?_; rintro e w1 ⟨rfl, rfl⟩) | (with_reducible refine (CM.out _).mono ?_; rintro e w1 ⟨rfl, rfl⟩))
  refine bodyPost_ret (v := .tuple #[.int .u64 (cutI w (IntKind.u64.wrap (mo w - a) + 1)), .int .i64 0]) (by simp [results, Tryd.results13, go_sem]) rfl ?_
  exact ⟨by rw [G.out]; rfl, rfl⟩

set_option maxRecDepth 100000 in
set_option maxHeartbeats 2000000 in
theorem rone_31 {w : Nat} (hw : IsW w) (a : Int) (ha : Of w a) (W : World) :
    Calls Tryd.prog 13 #[.int .u8 31, .int .i64 (w : Int), .int .u64 a] W fun e W' => e = .returned (pairV (one 31 w a)) ∧ W' = W := by
  have CW := width_calls (w : Int)
  rw [isW_of hw] at CW
  have CW := hide CW
  have FA := rfits_calls hw a
  rw [decide_eq_true (mo_ge ha)] at FA
  have FA := hide FA
  have CM := hide (@rmost_calls w hw)
  have E : IntKind.u64.wrap (mo w - a) = mo w - a := by
    have h1 := mo_ge ha
    have h2 : mo w < 18446744073709551616 := by rcases hw with rfl | rfl | rfl | rfl <;> decide
    have h3 := ha.1
    rw [IntKind.wrap_u64]; omega
  clear ha
  go_enter Tryd.func13, Tryd.ntmps13
  go_wp2_with (first | (with_reducible refine (CW.out _).mono ?_; rintro e w1 ⟨rfl, rfl⟩) | (with_reducible refine (FA.out _).mono ?_; rintro e w1 ⟨rfl, rfl⟩) | (with_reducible refine (CM.out _).mono ?_; rintro e w1 ⟨rfl, rfl⟩))
  refine bodyPost_ret (v := .tuple #[.int .u64 (mo w - a), .int .i64 0]) (by simp [results, Tryd.results13, go_sem]) rfl ?_
  exact ⟨rfl, rfl⟩

set_option maxRecDepth 100000 in
set_option maxHeartbeats 2000000 in
theorem rone_else {w : Nat} (hw : IsW w) (op : Int) (a : Int) (ho0 : 0 ≤ op) (ha : Of w a) (ho : op < 26 ∨ 31 < op) (W : World) :
    Calls Tryd.prog 13 #[.int .u8 op, .int .i64 (w : Int), .int .u64 a] W fun e W' => e = .returned (pairV (one op.toNat w a)) ∧ W' = W := by
  rw [one_none (by omega)]
  have CW := width_calls (w : Int)
  rw [isW_of hw] at CW
  have CW := hide CW
  have FA := rfits_calls hw a
  rw [decide_eq_true (mo_ge ha)] at FA
  have FA := hide FA
  have n26 : (op == 26) = false := by simp; omega
  have n27 : (op == 27) = false := by simp; omega
  have n28 : (op == 28) = false := by simp; omega
  have n29 : (op == 29) = false := by simp; omega
  have n30 : (op == 30) = false := by simp; omega
  have n31 : (op == 31) = false := by simp; omega
  clear ha ho ho0
  go_enter Tryd.func13, Tryd.ntmps13
  go_wp2_with (first | (with_reducible refine (CW.out _).mono ?_; rintro e w1 ⟨rfl, rfl⟩) | (with_reducible refine (FA.out _).mono ?_; rintro e w1 ⟨rfl, rfl⟩))
  refine bodyPost_ret (v := .tuple #[.int .u64 0, .int .i64 2]) (by simp [results, Tryd.results13, go_sem]) rfl ?_
  exact ⟨rfl, rfl⟩

set_option maxRecDepth 100000 in
set_option maxHeartbeats 1000000 in
theorem rone_bad (op w a : Int) (h0 : 0 ≤ a) (h : ok1 w a = false) (W : World) :
    Calls Tryd.prog 13 #[.int .u8 op, .int .i64 w, .int .u64 a] W fun e W' => e = .returned (pairV (0, 2)) ∧ W' = W := by
  have CW := width_calls w
  cases hw : isW w with
  | false =>
    rw [hw] at CW
    have CW := hide CW
    clear h
    go_enter Tryd.func13, Tryd.ntmps13
    go_wp2_with (first | (with_reducible refine (CW.out _).mono ?_; rintro e w1 ⟨rfl, rfl⟩))
    refine bodyPost_ret (v := .tuple #[.int .u64 0, .int .i64 2]) (by simp [results, Tryd.results13, go_sem]) rfl ?_
    exact ⟨rfl, rfl⟩
  | true =>
    rw [hw] at CW
    have CW := hide CW
    obtain ⟨n, rfl, hn⟩ := (isW_iff w).1 hw
    unfold ok1 at h
    rw [hw, Bool.true_and, Int.toNat_natCast] at h
    have FA := rfits_calls hn a
    rw [h] at FA
    have FA := hide FA
    clear h h0
    go_enter Tryd.func13, Tryd.ntmps13
    go_wp2_with (first | (with_reducible refine (CW.out _).mono ?_; rintro e w1 ⟨rfl, rfl⟩) | (with_reducible refine (FA.out _).mono ?_; rintro e w1 ⟨rfl, rfl⟩))
    refine bodyPost_ret (v := .tuple #[.int .u64 0, .int .i64 2]) (by simp [results, Tryd.results13, go_sem]) rfl ?_
    exact ⟨rfl, rfl⟩

/-- The document's One: every operator, at a number of a width. -/
theorem ROne_calls {w : Nat} (hw : IsW w) (op a : Int) (ho : 0 ≤ op) (ha : Of w a) (W : World) :
    Calls Tryd.prog 13 #[.int .u8 op, .int .i64 (w : Int), .int .u64 a] W fun e W' => e = .returned (pairV (one op.toNat w a)) ∧ W' = W := by
  by_cases hk : op < 26 ∨ 31 < op
  · exact rone_else hw op a ho ha hk W
  · rcases (show op = 26 ∨ op = 27 ∨ op = 28 ∨ op = 29 ∨ op = 30 ∨ op = 31 by omega) with rfl | rfl | rfl | rfl | rfl | rfl
    · exact rone_26 hw a ha W
    · exact rone_27 hw a ha W
    · exact rone_28 hw a ha W
    · exact rone_29 hw a ha W
    · exact rone_30 hw a ha W
    · exact rone_31 hw a ha W
end Go.Proofs.YtlpjkmobmpcfiaaDoor
