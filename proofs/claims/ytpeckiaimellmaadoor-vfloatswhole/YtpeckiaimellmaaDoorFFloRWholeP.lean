/-
  The document's whole, up, odd (genflo.py wrote it).
-/
import Derived.Test.YtpeckiaimellmaaDoorFFloRefsP
set_option linter.unusedVariables false
set_option linter.unusedSimpArgs false
namespace Go.Proofs.YtpeckiaimellmaaDoor.F
open Go.RowKit Flo

theorem rdigits32 (W : World) : Calls Tryd.prog 143 #[.int .i64 32] W fun e W' => e = .returned (.int .i64 23) ∧ W' = W := by
  go_enter Tryd.func143, Tryd.ntmps143
  go_wp2
  go_ret
  exact ⟨rfl, rfl⟩

theorem rone32 (W : World) : Calls Tryd.prog 144 #[.int .i64 32] W fun e W' => e = .returned (.int .u64 1065353216) ∧ W' = W := by
  go_enter Tryd.func144, Tryd.ntmps144
  go_wp2
  go_ret
  exact ⟨rfl, rfl⟩

theorem bias32 : bias Ieee.single = 127 := by decide +kernel
theorem binade32 : Ieee.single.binade = 8388608 := by decide
theorem digits32 : Ieee.single.fractionBits = 23 := rfl
set_option maxRecDepth 100000 in
set_option maxHeartbeats 1000000 in
theorem rwhole32_great {r q : Nat} (hr : r < 2147483648) (hq0 : q = r / 8388608) (h : 150 ≤ q) (W : World) :
    Calls Tryd.prog 124 #[.int .i64 32, .int .u64 (r : Int)] W fun e W' => e = .returned (.tuple #[.int .u64 (r : Int), .bool true, .bool false, .bool false]) ∧ W' = W := by
  have D := hide rdigits32
  have O := hide rone32
  have hq : (r : Int) / 8388608 = (q : Int) := by subst hq0; exact (Int.natCast_ediv r 8388608).symm
  have hqlt : q < 256 := by rw [hq0]; exact (Nat.div_lt_iff_lt_mul (by decide)).2 (by omega)
  have E1 : decide ((23 : Int) ≤ (q : Int) - 127) = true := by simp; omega
  clear hq0
  go_enter Tryd.func124, Tryd.ntmps124
  go_wp2_with (first | ((with_reducible refine (D.out _).mono ?_); rintro e w1 ⟨rfl, rfl⟩) | ((with_reducible refine (O.out _).mono ?_); rintro e w1 ⟨rfl, rfl⟩))
  refine bodyPost_ret (v := .tuple #[.int .u64 (r : Int), .bool true, .bool false, .bool false]) (by simp [results, Tryd.results124, go_sem]) rfl ?_
  exact ⟨rfl, rfl⟩

set_option maxRecDepth 100000 in
set_option maxHeartbeats 1000000 in
theorem rwhole32_half {r q : Nat} (hr : r < 2147483648) (hq0 : q = r / 8388608) (h : q = 126) (W : World) :
    Calls Tryd.prog 124 #[.int .i64 32, .int .u64 (r : Int)] W fun e W' => e = .returned (.tuple #[.int .u64 0, .bool (decide (r = 0)), .bool (decide (r % 8388608 ≠ 0)), .bool (decide (r % 8388608 = 0))]) ∧ W' = W := by
  have D := hide rdigits32
  have O := hide rone32
  have hq : (r : Int) / 8388608 = 126 := by omega
  have G : bits .and .u64 (r : Int) 8388607 = ((r % 8388608 : Nat) : Int) := by
    have := u64_and_nat r 8388607 (by omega) (by decide)
    rw [show (((8388607 : Nat)) : Int) = 8388607 from rfl] at this
    rw [this, show (8388607 : Nat) = 2 ^ 23 - 1 by decide, Nat.and_two_pow_sub_one_eq_mod]
  have hne : r ≠ 0 := by omega
  have e0 : ((r : Int) == 0) = false := by simp; omega
  have e1 : decide (r = 0) = false := by simp; omega
  rw [e1]
  generalize r % 8388608 = t at *
  clear hq0 h
  by_cases c : t = 0
  · subst c
    simp only [show ((0 : Nat) : Int) = 0 from rfl] at G
    go_enter Tryd.func124, Tryd.ntmps124
    go_wp2_with (first | ((with_reducible refine (D.out _).mono ?_); rintro e w1 ⟨rfl, rfl⟩) | ((with_reducible refine (O.out _).mono ?_); rintro e w1 ⟨rfl, rfl⟩))
    refine bodyPost_ret (v := .tuple #[.int .u64 0, .bool false, .bool false, .bool true]) (by simp [results, Tryd.results124, go_sem]) rfl ?_
    exact ⟨rfl, rfl⟩
  · have e2 : ((t : Int) == 0) = false := by simp; omega
    have e3 : ((t : Int) != 0) = true := by simp; omega
    have e4 := hide (show decide (t ≠ 0) = true by simp [c])
    have e5 := hide (show decide (t = 0) = false by simp [c])
    go_enter Tryd.func124, Tryd.ntmps124
    go_wp2_with (first | ((with_reducible refine (D.out _).mono ?_); rintro e w1 ⟨rfl, rfl⟩) | ((with_reducible refine (O.out _).mono ?_); rintro e w1 ⟨rfl, rfl⟩))
    refine bodyPost_ret (v := .tuple #[.int .u64 0, .bool false, .bool true, .bool false]) (by simp [results, Tryd.results124, go_sem]) rfl ?_
    first | exact ⟨rfl, rfl⟩ | exact ⟨by rw [e4.out, e5.out], rfl⟩

set_option maxRecDepth 100000 in
set_option maxHeartbeats 1000000 in
theorem rwhole32_small {r q : Nat} (hr : r < 2147483648) (hq0 : q = r / 8388608) (h : q < 126) (W : World) :
    Calls Tryd.prog 124 #[.int .i64 32, .int .u64 (r : Int)] W fun e W' => e = .returned (.tuple #[.int .u64 0, .bool (decide (r = 0)), .bool false, .bool false]) ∧ W' = W := by
  have D := hide rdigits32
  have O := hide rone32
  have hq : (r : Int) / 8388608 = (q : Int) := by subst hq0; exact (Int.natCast_ediv r 8388608).symm
  have hqlt : q < 256 := by rw [hq0]; exact (Nat.div_lt_iff_lt_mul (by decide)).2 (by omega)
  have E1 : decide ((23 : Int) ≤ (q : Int) - 127) = false := by simp; omega
  have E2 : decide ((q : Int) - 127 < 0) = true := by simp; omega
  have E3 : ((q : Int) - 127 == -1) = false := by simp; omega
  have E4 := hide (show ((r : Int) == 0) = decide (r = 0) by rw [Bool.beq_eq_decide_eq]; simp)
  clear hq0
  go_enter Tryd.func124, Tryd.ntmps124
  go_wp2_with (first | ((with_reducible refine (D.out _).mono ?_); rintro e w1 ⟨rfl, rfl⟩) | ((with_reducible refine (O.out _).mono ?_); rintro e w1 ⟨rfl, rfl⟩))
  refine bodyPost_ret (v := .tuple #[.int .u64 0, .bool ((r : Int) == 0), .bool false, .bool false]) (by simp [results, Tryd.results124, go_sem]) rfl ?_
  exact ⟨by rw [E4.out], rfl⟩

set_option maxRecDepth 100000 in
set_option maxHeartbeats 1000000 in
theorem rwhole32_mid {r q : Nat} (hr : r < 2147483648) (hq0 : q = r / 8388608) (h1 : 127 ≤ q) (h2 : q < 150) (W : World) :
    Calls Tryd.prog 124 #[.int .i64 32, .int .u64 (r : Int)] W fun e W' => e = .returned (.tuple #[.int .u64 ((r - r % 2 ^ (150 - q) : Nat) : Int), .bool (decide (r % 2 ^ (150 - q) = 0)), .bool (decide (2 ^ (150 - q - 1) < r % 2 ^ (150 - q))), .bool (decide (r % 2 ^ (150 - q) = 2 ^ (150 - q - 1)))]) ∧ W' = W := by
  have D := hide rdigits32
  have O := hide rone32
  have hq : (r : Int) / 8388608 = (q : Int) := by subst hq0; exact (Int.natCast_ediv r 8388608).symm
  have hqlt : q < 256 := by rw [hq0]; exact (Nat.div_lt_iff_lt_mul (by decide)).2 (by omega)
  have E1 : decide ((23 : Int) ≤ (q : Int) - 127) = false := by simp; omega
  have E2 : decide ((q : Int) - 127 < 0) = false := by simp; omega
  have hk : 23 - (q - 127) = 150 - q := by omega
  have hM1 : 2 ^ (150 - q) = 2 * 2 ^ (150 - q - 1) := half_pow (by omega)
  have hM2 : 2 ^ (150 - q) ≤ 2 ^ 23 := Nat.pow_le_pow_right (by decide) (by omega)
  have hM0 := Nat.two_pow_pos (150 - q - 1)
  have G1 : bits .and .u64 (r : Int) ((2 ^ (150 - q) - 1 : Nat) : Int) = ((r % 2 ^ (150 - q) : Nat) : Int) := by
    rw [u64_and_nat r _ (by omega) (by omega), Nat.and_two_pow_sub_one_eq_mod]
  have G2 : bits .andNot .u64 (r : Int) ((2 ^ (150 - q) - 1 : Nat) : Int) = ((r - r % 2 ^ (150 - q) : Nat) : Int) := by
    rw [u64_andNot_nat r _ (by omega) (by omega), andNot_mask (by omega) (by omega)]
  have P1 : IntKind.u64.wrap ((2 : Int) ^ (23 - (q - 127))) = ((2 ^ (150 - q) : Nat) : Int) := by
    rw [hk, IntKind.wrap_u64]
    have : ((2 : Int) ^ (150 - q)) = ((2 ^ (150 - q) : Nat) : Int) := by simp
    rw [this]
    omega
  generalize r % 2 ^ (150 - q) = t at *
  generalize 2 ^ (150 - q - 1) = H at *
  generalize 2 ^ (150 - q) = M at *
  have P2 : IntKind.u64.wrap ((M : Int) - 1) = ((M - 1 : Nat) : Int) := by rw [IntKind.wrap_u64]; omega
  have P3 : IntKind.u64.wrap (((M - 1 : Nat) : Int) + 1) = (M : Int) := by rw [IntKind.wrap_u64]; omega
  have P4 : IntKind.u64.wrap ((M : Int) / 2) = (H : Int) := by rw [IntKind.wrap_u64]; omega
  clear hM1 hM2 hM0 hk hq0
  generalize M - 1 = N at *
  have Z1 := hide (show ((t : Int) == 0) = decide (t = 0) by rw [Bool.beq_eq_decide_eq]; simp)
  have Z2 := hide (show decide ((H : Int) < (t : Int)) = decide (H < t) by simp)
  have Z3 := hide (show ((t : Int) == (H : Int)) = decide (t = H) by rw [Bool.beq_eq_decide_eq]; congr 1; apply propext; omega)
  generalize (r - t) = s at *
  go_enter Tryd.func124, Tryd.ntmps124
  go_wp2_with (first | ((with_reducible refine (D.out _).mono ?_); rintro e w1 ⟨rfl, rfl⟩) | ((with_reducible refine (O.out _).mono ?_); rintro e w1 ⟨rfl, rfl⟩))
  refine bodyPost_ret (v := .tuple #[.int .u64 (s : Int), .bool ((t : Int) == 0), .bool (decide ((H : Int) < (t : Int))), .bool ((t : Int) == (H : Int))]) (by simp [results, Tryd.results124, go_sem]) rfl ?_
  exact ⟨by rw [Z1.out, Z2.out, Z3.out], rfl⟩

def tupF (x : Nat × Bool × Bool × Bool) : Value := .tuple #[.int .u64 (x.1 : Int), .bool x.2.1, .bool x.2.2.1, .bool x.2.2.2]
theorem rwhole32_calls {r : Nat} (hr : r < 2147483648) (W : World) :
    Calls Tryd.prog 124 #[.int .i64 32, .int .u64 (r : Int)] W fun e W' => e = .returned (tupF (wholeF Ieee.single r)) ∧ W' = W := by
  unfold wholeF
  rw [bias32, binade32, digits32]
  by_cases c1 : 127 + 23 ≤ r / 8388608
  · rw [if_pos c1]
    exact rwhole32_great hr rfl (by omega) W
  · rw [if_neg c1]
    by_cases c2 : r / 8388608 < 127
    · rw [if_pos c2]
      by_cases c3 : r / 8388608 + 1 = 127
      · simp only [c3, decide_true, Bool.true_and]
        exact rwhole32_half hr rfl (by omega) W
      · simp only [c3, decide_false, Bool.false_and]
        exact rwhole32_small hr rfl (by omega) W
    · rw [if_neg c2]
      have ht : tail Ieee.single r = 150 - r / 8388608 := by unfold tail; rw [bias32, binade32, digits32]
      rw [ht]
      exact rwhole32_mid hr rfl (by omega) (by omega) W

set_option maxRecDepth 100000 in
set_option maxHeartbeats 1000000 in
theorem rup32_zero (W : World) :
    Calls Tryd.prog 126 #[.int .i64 32, .int .u64 0] W fun e W' => e = .returned (.int .u64 1065353216) ∧ W' = W := by
  have D := hide rdigits32
  have O := hide rone32
  go_enter Tryd.func126, Tryd.ntmps126
  go_wp2_with (first | ((with_reducible refine (D.out _).mono ?_); rintro e w1 ⟨rfl, rfl⟩) | ((with_reducible refine (O.out _).mono ?_); rintro e w1 ⟨rfl, rfl⟩))
  go_ret
  exact ⟨rfl, rfl⟩

set_option maxRecDepth 100000 in
set_option maxHeartbeats 1000000 in
theorem rup32_some {r q : Nat} (hr : r < 2147483648) (hq0 : q = r / 8388608) (h0 : r ≠ 0) (h1 : 127 ≤ q) (h2 : q ≤ 150) (W : World) :
    Calls Tryd.prog 126 #[.int .i64 32, .int .u64 (r : Int)] W fun e W' => e = .returned (.int .u64 ((r + 2 ^ (150 - q) : Nat) : Int)) ∧ W' = W := by
  have D := hide rdigits32
  have O := hide rone32
  have hq : (r : Int) / 8388608 = (q : Int) := by subst hq0; exact (Int.natCast_ediv r 8388608).symm
  have hqlt : q < 256 := by rw [hq0]; exact (Nat.div_lt_iff_lt_mul (by decide)).2 (by omega)
  have e0 : ((r : Int) == 0) = false := by simp; omega
  have hk : 23 - (q - 127) = 150 - q := by omega
  have hM2 : 2 ^ (150 - q) ≤ 2 ^ 23 := Nat.pow_le_pow_right (by decide) (by omega)
  have hM0 := Nat.two_pow_pos (150 - q)
  have P1 : IntKind.u64.wrap ((2 : Int) ^ (23 - (q - 127))) = ((2 ^ (150 - q) : Nat) : Int) := by
    rw [hk, IntKind.wrap_u64]
    have : ((2 : Int) ^ (150 - q)) = ((2 ^ (150 - q) : Nat) : Int) := by simp
    rw [this]
    omega
  generalize 2 ^ (150 - q) = M at *
  have P2 : IntKind.u64.wrap ((r : Int) + (M : Int)) = ((r + M : Nat) : Int) := by rw [IntKind.wrap_u64]; omega
  have P2 := hide P2
  clear hM2 hM0 hk hq0 h0
  go_enter Tryd.func126, Tryd.ntmps126
  go_wp2_with (first | ((with_reducible refine (D.out _).mono ?_); rintro e w1 ⟨rfl, rfl⟩) | ((with_reducible refine (O.out _).mono ?_); rintro e w1 ⟨rfl, rfl⟩))
  go_ret
  exact ⟨congrArg (fun z => Ending.returned (.int .u64 z)) (by first | exact P2.out | rfl), rfl⟩

theorem rup32_calls {r : Nat} (hr : r < 2147483648) (h : r = 0 ∨ (127 ≤ r / 8388608 ∧ r / 8388608 ≤ 150)) (W : World) :
    Calls Tryd.prog 126 #[.int .i64 32, .int .u64 (r : Int)] W fun e W' => e = .returned (.int .u64 (upF Ieee.single r : Int)) ∧ W' = W := by
  unfold upF
  by_cases c : r = 0
  · subst c
    rw [if_pos rfl, bias32, binade32]
    exact rup32_zero W
  · obtain ⟨h1, h2⟩ := h.resolve_left c
    rw [if_neg c]
    have ht : tail Ieee.single r = 150 - r / 8388608 := by unfold tail; rw [bias32, binade32, digits32]
    rw [ht]
    exact rup32_some hr rfl c h1 h2 W

set_option maxRecDepth 100000 in
set_option maxHeartbeats 1000000 in
theorem rodd32_lo {r q : Nat} (hr : r < 2147483648) (hq0 : q = r / 8388608) (h : q < 127) (W : World) :
    Calls Tryd.prog 125 #[.int .i64 32, .int .u64 (r : Int)] W fun e W' => e = .returned (.bool false) ∧ W' = W := by
  have D := hide rdigits32
  have O := hide rone32
  have hq : (r : Int) / 8388608 = (q : Int) := by subst hq0; exact (Int.natCast_ediv r 8388608).symm
  have hqlt : q < 256 := by rw [hq0]; exact (Nat.div_lt_iff_lt_mul (by decide)).2 (by omega)
  have E1 : decide ((q : Int) - 127 < 0) = true := by simp; omega
  clear hq0
  go_enter Tryd.func125, Tryd.ntmps125
  go_wp2_with (first | ((with_reducible refine (D.out _).mono ?_); rintro e w1 ⟨rfl, rfl⟩) | ((with_reducible refine (O.out _).mono ?_); rintro e w1 ⟨rfl, rfl⟩))
  go_ret
  exact ⟨rfl, rfl⟩

set_option maxRecDepth 100000 in
set_option maxHeartbeats 1000000 in
theorem rodd32_hi {r q : Nat} (hr : r < 2147483648) (hq0 : q = r / 8388608) (h : 150 < q) (W : World) :
    Calls Tryd.prog 125 #[.int .i64 32, .int .u64 (r : Int)] W fun e W' => e = .returned (.bool false) ∧ W' = W := by
  have D := hide rdigits32
  have O := hide rone32
  have hq : (r : Int) / 8388608 = (q : Int) := by subst hq0; exact (Int.natCast_ediv r 8388608).symm
  have hqlt : q < 256 := by rw [hq0]; exact (Nat.div_lt_iff_lt_mul (by decide)).2 (by omega)
  have E1 : decide ((q : Int) - 127 < 0) = false := by simp; omega
  have E2 : decide ((q : Int) - 127 > 23) = true := by simp; omega
  clear hq0
  go_enter Tryd.func125, Tryd.ntmps125
  go_wp2_with (first | ((with_reducible refine (D.out _).mono ?_); rintro e w1 ⟨rfl, rfl⟩) | ((with_reducible refine (O.out _).mono ?_); rintro e w1 ⟨rfl, rfl⟩))
  go_ret
  exact ⟨rfl, rfl⟩

set_option maxRecDepth 100000 in
set_option maxHeartbeats 1000000 in
theorem rodd32_mid {r q : Nat} (hr : r < 2147483648) (hq0 : q = r / 8388608) (h1 : 127 ≤ q) (h2 : q ≤ 150) (W : World) :
    Calls Tryd.prog 125 #[.int .i64 32, .int .u64 (r : Int)] W fun e W' => e = .returned (.bool (decide ((8388608 + r % 8388608) / 2 ^ (150 - q) % 2 = 1))) ∧ W' = W := by
  have D := hide rdigits32
  have O := hide rone32
  have hq : (r : Int) / 8388608 = (q : Int) := by subst hq0; exact (Int.natCast_ediv r 8388608).symm
  have hqlt : q < 256 := by rw [hq0]; exact (Nat.div_lt_iff_lt_mul (by decide)).2 (by omega)
  have E1 : decide ((q : Int) - 127 < 0) = false := by simp; omega
  have E2 : decide ((q : Int) - 127 > 23) = false := by simp; omega
  have hk : 23 - (q - 127) = 150 - q := by omega
  have hlt : r % 8388608 < 8388608 := Nat.mod_lt _ (by decide)
  have G : bits .and .u64 (r : Int) 8388607 = ((r % 8388608 : Nat) : Int) := by
    have := u64_and_nat r 8388607 (by omega) (by decide)
    rw [show (((8388607 : Nat)) : Int) = 8388607 from rfl] at this
    rw [this, show (8388607 : Nat) = 2 ^ 23 - 1 by decide, Nat.and_two_pow_sub_one_eq_mod]
  have G2 : bits .or .u64 ((r % 8388608 : Nat) : Int) 8388608 = ((8388608 + r % 8388608 : Nat) : Int) := by
    have := u64_or_nat (r % 8388608) 8388608 (by omega) (by decide)
    rw [show (((8388608 : Nat)) : Int) = 8388608 from rfl] at this
    rw [this, Nat.or_comm]
    have h := Nat.two_pow_add_eq_or_of_lt (i := 23) (b := r % 8388608) hlt 1
    rw [Nat.mul_one] at h
    rw [show (8388608 : Nat) = 2 ^ 23 by decide, show r % 2 ^ 23 = r % 8388608 from rfl, ← h]
  have G3 : ((8388608 + r % 8388608 : Nat) : Int) / 2 ^ (23 - (q - 127)) = (((8388608 + r % 8388608) / 2 ^ (150 - q) : Nat) : Int) := by
    rw [hk]; simp
  generalize hX : (8388608 + r % 8388608) / 2 ^ (150 - q) = x at *
  have hx : x < 18446744073709551616 := by
    have := Nat.div_le_self (8388608 + r % 8388608) (2 ^ (150 - q))
    omega
  have G4 : bits .and .u64 (x : Int) 1 = ((x % 2 : Nat) : Int) := by
    have := u64_and_nat x 1 hx (by decide)
    rw [show (((1 : Nat)) : Int) = 1 from rfl] at this
    rw [this, Nat.and_one_is_mod]
  generalize 8388608 + r % 8388608 = y at *
  generalize r % 8388608 = t at *
  clear hX hx hlt hk hq0
  have Z := hide (show (((x % 2 : Nat) : Int) == 1) = decide (x % 2 = 1) by rw [Bool.beq_eq_decide_eq]; congr 1; apply propext; omega)
  generalize x % 2 = z at *
  go_enter Tryd.func125, Tryd.ntmps125
  go_wp2_with (first | ((with_reducible refine (D.out _).mono ?_); rintro e w1 ⟨rfl, rfl⟩) | ((with_reducible refine (O.out _).mono ?_); rintro e w1 ⟨rfl, rfl⟩))
  go_ret
  exact ⟨by rw [← Z.out]; rfl, rfl⟩

theorem rodd32_calls {r : Nat} (hr : r < 2147483648) (W : World) :
    Calls Tryd.prog 125 #[.int .i64 32, .int .u64 (r : Int)] W fun e W' => e = .returned (.bool (oddF Ieee.single r)) ∧ W' = W := by
  unfold oddF
  rw [bias32, binade32, digits32]
  by_cases c1 : r / 8388608 < 127
  · rw [if_pos (.inl c1)]
    exact rodd32_lo hr rfl c1 W
  · by_cases c2 : 127 + 23 < r / 8388608
    · rw [if_pos (.inr c2)]
      exact rodd32_hi hr rfl (by omega) W
    · rw [if_neg (by omega)]
      have ht : tail Ieee.single r = 150 - r / 8388608 := by unfold tail; rw [bias32, binade32, digits32]
      rw [ht]
      exact rodd32_mid hr rfl (by omega) (by omega) W

theorem rdigits64 (W : World) : Calls Tryd.prog 143 #[.int .i64 64] W fun e W' => e = .returned (.int .i64 52) ∧ W' = W := by
  go_enter Tryd.func143, Tryd.ntmps143
  go_wp2
  go_ret
  exact ⟨rfl, rfl⟩

theorem rone64 (W : World) : Calls Tryd.prog 144 #[.int .i64 64] W fun e W' => e = .returned (.int .u64 4607182418800017408) ∧ W' = W := by
  go_enter Tryd.func144, Tryd.ntmps144
  go_wp2
  go_ret
  exact ⟨rfl, rfl⟩

theorem bias64 : bias Ieee.double = 1023 := by decide +kernel
theorem binade64 : Ieee.double.binade = 4503599627370496 := by decide
theorem digits64 : Ieee.double.fractionBits = 52 := rfl
set_option maxRecDepth 100000 in
set_option maxHeartbeats 1000000 in
theorem rwhole64_great {r q : Nat} (hr : r < 9223372036854775808) (hq0 : q = r / 4503599627370496) (h : 1075 ≤ q) (W : World) :
    Calls Tryd.prog 124 #[.int .i64 64, .int .u64 (r : Int)] W fun e W' => e = .returned (.tuple #[.int .u64 (r : Int), .bool true, .bool false, .bool false]) ∧ W' = W := by
  have D := hide rdigits64
  have O := hide rone64
  have hq : (r : Int) / 4503599627370496 = (q : Int) := by subst hq0; exact (Int.natCast_ediv r 4503599627370496).symm
  have hqlt : q < 2048 := by rw [hq0]; exact (Nat.div_lt_iff_lt_mul (by decide)).2 (by omega)
  have E1 : decide ((52 : Int) ≤ (q : Int) - 1023) = true := by simp; omega
  clear hq0
  go_enter Tryd.func124, Tryd.ntmps124
  go_wp2_with (first | ((with_reducible refine (D.out _).mono ?_); rintro e w1 ⟨rfl, rfl⟩) | ((with_reducible refine (O.out _).mono ?_); rintro e w1 ⟨rfl, rfl⟩))
  refine bodyPost_ret (v := .tuple #[.int .u64 (r : Int), .bool true, .bool false, .bool false]) (by simp [results, Tryd.results124, go_sem]) rfl ?_
  exact ⟨rfl, rfl⟩

set_option maxRecDepth 100000 in
set_option maxHeartbeats 1000000 in
theorem rwhole64_half {r q : Nat} (hr : r < 9223372036854775808) (hq0 : q = r / 4503599627370496) (h : q = 1022) (W : World) :
    Calls Tryd.prog 124 #[.int .i64 64, .int .u64 (r : Int)] W fun e W' => e = .returned (.tuple #[.int .u64 0, .bool (decide (r = 0)), .bool (decide (r % 4503599627370496 ≠ 0)), .bool (decide (r % 4503599627370496 = 0))]) ∧ W' = W := by
  have D := hide rdigits64
  have O := hide rone64
  have hq : (r : Int) / 4503599627370496 = 1022 := by omega
  have G : bits .and .u64 (r : Int) 4503599627370495 = ((r % 4503599627370496 : Nat) : Int) := by
    have := u64_and_nat r 4503599627370495 (by omega) (by decide)
    rw [show (((4503599627370495 : Nat)) : Int) = 4503599627370495 from rfl] at this
    rw [this, show (4503599627370495 : Nat) = 2 ^ 52 - 1 by decide, Nat.and_two_pow_sub_one_eq_mod]
  have hne : r ≠ 0 := by omega
  have e0 : ((r : Int) == 0) = false := by simp; omega
  have e1 : decide (r = 0) = false := by simp; omega
  rw [e1]
  generalize r % 4503599627370496 = t at *
  clear hq0 h
  by_cases c : t = 0
  · subst c
    simp only [show ((0 : Nat) : Int) = 0 from rfl] at G
    go_enter Tryd.func124, Tryd.ntmps124
    go_wp2_with (first | ((with_reducible refine (D.out _).mono ?_); rintro e w1 ⟨rfl, rfl⟩) | ((with_reducible refine (O.out _).mono ?_); rintro e w1 ⟨rfl, rfl⟩))
    refine bodyPost_ret (v := .tuple #[.int .u64 0, .bool false, .bool false, .bool true]) (by simp [results, Tryd.results124, go_sem]) rfl ?_
    exact ⟨rfl, rfl⟩
  · have e2 : ((t : Int) == 0) = false := by simp; omega
    have e3 : ((t : Int) != 0) = true := by simp; omega
    have e4 := hide (show decide (t ≠ 0) = true by simp [c])
    have e5 := hide (show decide (t = 0) = false by simp [c])
    go_enter Tryd.func124, Tryd.ntmps124
    go_wp2_with (first | ((with_reducible refine (D.out _).mono ?_); rintro e w1 ⟨rfl, rfl⟩) | ((with_reducible refine (O.out _).mono ?_); rintro e w1 ⟨rfl, rfl⟩))
    refine bodyPost_ret (v := .tuple #[.int .u64 0, .bool false, .bool true, .bool false]) (by simp [results, Tryd.results124, go_sem]) rfl ?_
    first | exact ⟨rfl, rfl⟩ | exact ⟨by rw [e4.out, e5.out], rfl⟩

set_option maxRecDepth 100000 in
set_option maxHeartbeats 1000000 in
theorem rwhole64_small {r q : Nat} (hr : r < 9223372036854775808) (hq0 : q = r / 4503599627370496) (h : q < 1022) (W : World) :
    Calls Tryd.prog 124 #[.int .i64 64, .int .u64 (r : Int)] W fun e W' => e = .returned (.tuple #[.int .u64 0, .bool (decide (r = 0)), .bool false, .bool false]) ∧ W' = W := by
  have D := hide rdigits64
  have O := hide rone64
  have hq : (r : Int) / 4503599627370496 = (q : Int) := by subst hq0; exact (Int.natCast_ediv r 4503599627370496).symm
  have hqlt : q < 2048 := by rw [hq0]; exact (Nat.div_lt_iff_lt_mul (by decide)).2 (by omega)
  have E1 : decide ((52 : Int) ≤ (q : Int) - 1023) = false := by simp; omega
  have E2 : decide ((q : Int) - 1023 < 0) = true := by simp; omega
  have E3 : ((q : Int) - 1023 == -1) = false := by simp; omega
  have E4 := hide (show ((r : Int) == 0) = decide (r = 0) by rw [Bool.beq_eq_decide_eq]; simp)
  clear hq0
  go_enter Tryd.func124, Tryd.ntmps124
  go_wp2_with (first | ((with_reducible refine (D.out _).mono ?_); rintro e w1 ⟨rfl, rfl⟩) | ((with_reducible refine (O.out _).mono ?_); rintro e w1 ⟨rfl, rfl⟩))
  refine bodyPost_ret (v := .tuple #[.int .u64 0, .bool ((r : Int) == 0), .bool false, .bool false]) (by simp [results, Tryd.results124, go_sem]) rfl ?_
  exact ⟨by rw [E4.out], rfl⟩

set_option maxRecDepth 100000 in
set_option maxHeartbeats 1000000 in
theorem rwhole64_mid {r q : Nat} (hr : r < 9223372036854775808) (hq0 : q = r / 4503599627370496) (h1 : 1023 ≤ q) (h2 : q < 1075) (W : World) :
    Calls Tryd.prog 124 #[.int .i64 64, .int .u64 (r : Int)] W fun e W' => e = .returned (.tuple #[.int .u64 ((r - r % 2 ^ (1075 - q) : Nat) : Int), .bool (decide (r % 2 ^ (1075 - q) = 0)), .bool (decide (2 ^ (1075 - q - 1) < r % 2 ^ (1075 - q))), .bool (decide (r % 2 ^ (1075 - q) = 2 ^ (1075 - q - 1)))]) ∧ W' = W := by
  have D := hide rdigits64
  have O := hide rone64
  have hq : (r : Int) / 4503599627370496 = (q : Int) := by subst hq0; exact (Int.natCast_ediv r 4503599627370496).symm
  have hqlt : q < 2048 := by rw [hq0]; exact (Nat.div_lt_iff_lt_mul (by decide)).2 (by omega)
  have E1 : decide ((52 : Int) ≤ (q : Int) - 1023) = false := by simp; omega
  have E2 : decide ((q : Int) - 1023 < 0) = false := by simp; omega
  have hk : 52 - (q - 1023) = 1075 - q := by omega
  have hM1 : 2 ^ (1075 - q) = 2 * 2 ^ (1075 - q - 1) := half_pow (by omega)
  have hM2 : 2 ^ (1075 - q) ≤ 2 ^ 52 := Nat.pow_le_pow_right (by decide) (by omega)
  have hM0 := Nat.two_pow_pos (1075 - q - 1)
  have G1 : bits .and .u64 (r : Int) ((2 ^ (1075 - q) - 1 : Nat) : Int) = ((r % 2 ^ (1075 - q) : Nat) : Int) := by
    rw [u64_and_nat r _ (by omega) (by omega), Nat.and_two_pow_sub_one_eq_mod]
  have G2 : bits .andNot .u64 (r : Int) ((2 ^ (1075 - q) - 1 : Nat) : Int) = ((r - r % 2 ^ (1075 - q) : Nat) : Int) := by
    rw [u64_andNot_nat r _ (by omega) (by omega), andNot_mask (by omega) (by omega)]
  have P1 : IntKind.u64.wrap ((2 : Int) ^ (52 - (q - 1023))) = ((2 ^ (1075 - q) : Nat) : Int) := by
    rw [hk, IntKind.wrap_u64]
    have : ((2 : Int) ^ (1075 - q)) = ((2 ^ (1075 - q) : Nat) : Int) := by simp
    rw [this]
    omega
  generalize r % 2 ^ (1075 - q) = t at *
  generalize 2 ^ (1075 - q - 1) = H at *
  generalize 2 ^ (1075 - q) = M at *
  have P2 : IntKind.u64.wrap ((M : Int) - 1) = ((M - 1 : Nat) : Int) := by rw [IntKind.wrap_u64]; omega
  have P3 : IntKind.u64.wrap (((M - 1 : Nat) : Int) + 1) = (M : Int) := by rw [IntKind.wrap_u64]; omega
  have P4 : IntKind.u64.wrap ((M : Int) / 2) = (H : Int) := by rw [IntKind.wrap_u64]; omega
  clear hM1 hM2 hM0 hk hq0
  generalize M - 1 = N at *
  have Z1 := hide (show ((t : Int) == 0) = decide (t = 0) by rw [Bool.beq_eq_decide_eq]; simp)
  have Z2 := hide (show decide ((H : Int) < (t : Int)) = decide (H < t) by simp)
  have Z3 := hide (show ((t : Int) == (H : Int)) = decide (t = H) by rw [Bool.beq_eq_decide_eq]; congr 1; apply propext; omega)
  generalize (r - t) = s at *
  go_enter Tryd.func124, Tryd.ntmps124
  go_wp2_with (first | ((with_reducible refine (D.out _).mono ?_); rintro e w1 ⟨rfl, rfl⟩) | ((with_reducible refine (O.out _).mono ?_); rintro e w1 ⟨rfl, rfl⟩))
  refine bodyPost_ret (v := .tuple #[.int .u64 (s : Int), .bool ((t : Int) == 0), .bool (decide ((H : Int) < (t : Int))), .bool ((t : Int) == (H : Int))]) (by simp [results, Tryd.results124, go_sem]) rfl ?_
  exact ⟨by rw [Z1.out, Z2.out, Z3.out], rfl⟩

def tupG (x : Nat × Bool × Bool × Bool) : Value := .tuple #[.int .u64 (x.1 : Int), .bool x.2.1, .bool x.2.2.1, .bool x.2.2.2]
theorem rwhole64_calls {r : Nat} (hr : r < 9223372036854775808) (W : World) :
    Calls Tryd.prog 124 #[.int .i64 64, .int .u64 (r : Int)] W fun e W' => e = .returned (tupF (wholeF Ieee.double r)) ∧ W' = W := by
  unfold wholeF
  rw [bias64, binade64, digits64]
  by_cases c1 : 1023 + 52 ≤ r / 4503599627370496
  · rw [if_pos c1]
    exact rwhole64_great hr rfl (by omega) W
  · rw [if_neg c1]
    by_cases c2 : r / 4503599627370496 < 1023
    · rw [if_pos c2]
      by_cases c3 : r / 4503599627370496 + 1 = 1023
      · simp only [c3, decide_true, Bool.true_and]
        exact rwhole64_half hr rfl (by omega) W
      · simp only [c3, decide_false, Bool.false_and]
        exact rwhole64_small hr rfl (by omega) W
    · rw [if_neg c2]
      have ht : tail Ieee.double r = 1075 - r / 4503599627370496 := by unfold tail; rw [bias64, binade64, digits64]
      rw [ht]
      exact rwhole64_mid hr rfl (by omega) (by omega) W

set_option maxRecDepth 100000 in
set_option maxHeartbeats 1000000 in
theorem rup64_zero (W : World) :
    Calls Tryd.prog 126 #[.int .i64 64, .int .u64 0] W fun e W' => e = .returned (.int .u64 4607182418800017408) ∧ W' = W := by
  have D := hide rdigits64
  have O := hide rone64
  go_enter Tryd.func126, Tryd.ntmps126
  go_wp2_with (first | ((with_reducible refine (D.out _).mono ?_); rintro e w1 ⟨rfl, rfl⟩) | ((with_reducible refine (O.out _).mono ?_); rintro e w1 ⟨rfl, rfl⟩))
  go_ret
  exact ⟨rfl, rfl⟩

set_option maxRecDepth 100000 in
set_option maxHeartbeats 1000000 in
theorem rup64_some {r q : Nat} (hr : r < 9223372036854775808) (hq0 : q = r / 4503599627370496) (h0 : r ≠ 0) (h1 : 1023 ≤ q) (h2 : q ≤ 1075) (W : World) :
    Calls Tryd.prog 126 #[.int .i64 64, .int .u64 (r : Int)] W fun e W' => e = .returned (.int .u64 ((r + 2 ^ (1075 - q) : Nat) : Int)) ∧ W' = W := by
  have D := hide rdigits64
  have O := hide rone64
  have hq : (r : Int) / 4503599627370496 = (q : Int) := by subst hq0; exact (Int.natCast_ediv r 4503599627370496).symm
  have hqlt : q < 2048 := by rw [hq0]; exact (Nat.div_lt_iff_lt_mul (by decide)).2 (by omega)
  have e0 : ((r : Int) == 0) = false := by simp; omega
  have hk : 52 - (q - 1023) = 1075 - q := by omega
  have hM2 : 2 ^ (1075 - q) ≤ 2 ^ 52 := Nat.pow_le_pow_right (by decide) (by omega)
  have hM0 := Nat.two_pow_pos (1075 - q)
  have P1 : IntKind.u64.wrap ((2 : Int) ^ (52 - (q - 1023))) = ((2 ^ (1075 - q) : Nat) : Int) := by
    rw [hk, IntKind.wrap_u64]
    have : ((2 : Int) ^ (1075 - q)) = ((2 ^ (1075 - q) : Nat) : Int) := by simp
    rw [this]
    omega
  generalize 2 ^ (1075 - q) = M at *
  have P2 : IntKind.u64.wrap ((r : Int) + (M : Int)) = ((r + M : Nat) : Int) := by rw [IntKind.wrap_u64]; omega
  have P2 := hide P2
  clear hM2 hM0 hk hq0 h0
  go_enter Tryd.func126, Tryd.ntmps126
  go_wp2_with (first | ((with_reducible refine (D.out _).mono ?_); rintro e w1 ⟨rfl, rfl⟩) | ((with_reducible refine (O.out _).mono ?_); rintro e w1 ⟨rfl, rfl⟩))
  go_ret
  exact ⟨congrArg (fun z => Ending.returned (.int .u64 z)) (by first | exact P2.out | rfl), rfl⟩

theorem rup64_calls {r : Nat} (hr : r < 9223372036854775808) (h : r = 0 ∨ (1023 ≤ r / 4503599627370496 ∧ r / 4503599627370496 ≤ 1075)) (W : World) :
    Calls Tryd.prog 126 #[.int .i64 64, .int .u64 (r : Int)] W fun e W' => e = .returned (.int .u64 (upF Ieee.double r : Int)) ∧ W' = W := by
  unfold upF
  by_cases c : r = 0
  · subst c
    rw [if_pos rfl, bias64, binade64]
    exact rup64_zero W
  · obtain ⟨h1, h2⟩ := h.resolve_left c
    rw [if_neg c]
    have ht : tail Ieee.double r = 1075 - r / 4503599627370496 := by unfold tail; rw [bias64, binade64, digits64]
    rw [ht]
    exact rup64_some hr rfl c h1 h2 W

set_option maxRecDepth 100000 in
set_option maxHeartbeats 1000000 in
theorem rodd64_lo {r q : Nat} (hr : r < 9223372036854775808) (hq0 : q = r / 4503599627370496) (h : q < 1023) (W : World) :
    Calls Tryd.prog 125 #[.int .i64 64, .int .u64 (r : Int)] W fun e W' => e = .returned (.bool false) ∧ W' = W := by
  have D := hide rdigits64
  have O := hide rone64
  have hq : (r : Int) / 4503599627370496 = (q : Int) := by subst hq0; exact (Int.natCast_ediv r 4503599627370496).symm
  have hqlt : q < 2048 := by rw [hq0]; exact (Nat.div_lt_iff_lt_mul (by decide)).2 (by omega)
  have E1 : decide ((q : Int) - 1023 < 0) = true := by simp; omega
  clear hq0
  go_enter Tryd.func125, Tryd.ntmps125
  go_wp2_with (first | ((with_reducible refine (D.out _).mono ?_); rintro e w1 ⟨rfl, rfl⟩) | ((with_reducible refine (O.out _).mono ?_); rintro e w1 ⟨rfl, rfl⟩))
  go_ret
  exact ⟨rfl, rfl⟩

set_option maxRecDepth 100000 in
set_option maxHeartbeats 1000000 in
theorem rodd64_hi {r q : Nat} (hr : r < 9223372036854775808) (hq0 : q = r / 4503599627370496) (h : 1075 < q) (W : World) :
    Calls Tryd.prog 125 #[.int .i64 64, .int .u64 (r : Int)] W fun e W' => e = .returned (.bool false) ∧ W' = W := by
  have D := hide rdigits64
  have O := hide rone64
  have hq : (r : Int) / 4503599627370496 = (q : Int) := by subst hq0; exact (Int.natCast_ediv r 4503599627370496).symm
  have hqlt : q < 2048 := by rw [hq0]; exact (Nat.div_lt_iff_lt_mul (by decide)).2 (by omega)
  have E1 : decide ((q : Int) - 1023 < 0) = false := by simp; omega
  have E2 : decide ((q : Int) - 1023 > 52) = true := by simp; omega
  clear hq0
  go_enter Tryd.func125, Tryd.ntmps125
  go_wp2_with (first | ((with_reducible refine (D.out _).mono ?_); rintro e w1 ⟨rfl, rfl⟩) | ((with_reducible refine (O.out _).mono ?_); rintro e w1 ⟨rfl, rfl⟩))
  go_ret
  exact ⟨rfl, rfl⟩

set_option maxRecDepth 100000 in
set_option maxHeartbeats 1000000 in
theorem rodd64_mid {r q : Nat} (hr : r < 9223372036854775808) (hq0 : q = r / 4503599627370496) (h1 : 1023 ≤ q) (h2 : q ≤ 1075) (W : World) :
    Calls Tryd.prog 125 #[.int .i64 64, .int .u64 (r : Int)] W fun e W' => e = .returned (.bool (decide ((4503599627370496 + r % 4503599627370496) / 2 ^ (1075 - q) % 2 = 1))) ∧ W' = W := by
  have D := hide rdigits64
  have O := hide rone64
  have hq : (r : Int) / 4503599627370496 = (q : Int) := by subst hq0; exact (Int.natCast_ediv r 4503599627370496).symm
  have hqlt : q < 2048 := by rw [hq0]; exact (Nat.div_lt_iff_lt_mul (by decide)).2 (by omega)
  have E1 : decide ((q : Int) - 1023 < 0) = false := by simp; omega
  have E2 : decide ((q : Int) - 1023 > 52) = false := by simp; omega
  have hk : 52 - (q - 1023) = 1075 - q := by omega
  have hlt : r % 4503599627370496 < 4503599627370496 := Nat.mod_lt _ (by decide)
  have G : bits .and .u64 (r : Int) 4503599627370495 = ((r % 4503599627370496 : Nat) : Int) := by
    have := u64_and_nat r 4503599627370495 (by omega) (by decide)
    rw [show (((4503599627370495 : Nat)) : Int) = 4503599627370495 from rfl] at this
    rw [this, show (4503599627370495 : Nat) = 2 ^ 52 - 1 by decide, Nat.and_two_pow_sub_one_eq_mod]
  have G2 : bits .or .u64 ((r % 4503599627370496 : Nat) : Int) 4503599627370496 = ((4503599627370496 + r % 4503599627370496 : Nat) : Int) := by
    have := u64_or_nat (r % 4503599627370496) 4503599627370496 (by omega) (by decide)
    rw [show (((4503599627370496 : Nat)) : Int) = 4503599627370496 from rfl] at this
    rw [this, Nat.or_comm]
    have h := Nat.two_pow_add_eq_or_of_lt (i := 52) (b := r % 4503599627370496) hlt 1
    rw [Nat.mul_one] at h
    rw [show (4503599627370496 : Nat) = 2 ^ 52 by decide, show r % 2 ^ 52 = r % 4503599627370496 from rfl, ← h]
  have G3 : ((4503599627370496 + r % 4503599627370496 : Nat) : Int) / 2 ^ (52 - (q - 1023)) = (((4503599627370496 + r % 4503599627370496) / 2 ^ (1075 - q) : Nat) : Int) := by
    rw [hk]; simp
  generalize hX : (4503599627370496 + r % 4503599627370496) / 2 ^ (1075 - q) = x at *
  have hx : x < 18446744073709551616 := by
    have := Nat.div_le_self (4503599627370496 + r % 4503599627370496) (2 ^ (1075 - q))
    omega
  have G4 : bits .and .u64 (x : Int) 1 = ((x % 2 : Nat) : Int) := by
    have := u64_and_nat x 1 hx (by decide)
    rw [show (((1 : Nat)) : Int) = 1 from rfl] at this
    rw [this, Nat.and_one_is_mod]
  generalize 4503599627370496 + r % 4503599627370496 = y at *
  generalize r % 4503599627370496 = t at *
  clear hX hx hlt hk hq0
  have Z := hide (show (((x % 2 : Nat) : Int) == 1) = decide (x % 2 = 1) by rw [Bool.beq_eq_decide_eq]; congr 1; apply propext; omega)
  generalize x % 2 = z at *
  go_enter Tryd.func125, Tryd.ntmps125
  go_wp2_with (first | ((with_reducible refine (D.out _).mono ?_); rintro e w1 ⟨rfl, rfl⟩) | ((with_reducible refine (O.out _).mono ?_); rintro e w1 ⟨rfl, rfl⟩))
  go_ret
  exact ⟨by rw [← Z.out]; rfl, rfl⟩

theorem rodd64_calls {r : Nat} (hr : r < 9223372036854775808) (W : World) :
    Calls Tryd.prog 125 #[.int .i64 64, .int .u64 (r : Int)] W fun e W' => e = .returned (.bool (oddF Ieee.double r)) ∧ W' = W := by
  unfold oddF
  rw [bias64, binade64, digits64]
  by_cases c1 : r / 4503599627370496 < 1023
  · rw [if_pos (.inl c1)]
    exact rodd64_lo hr rfl c1 W
  · by_cases c2 : 1023 + 52 < r / 4503599627370496
    · rw [if_pos (.inr c2)]
      exact rodd64_hi hr rfl (by omega) W
    · rw [if_neg (by omega)]
      have ht : tail Ieee.double r = 1075 - r / 4503599627370496 := by unfold tail; rw [bias64, binade64, digits64]
      rw [ht]
      exact rodd64_mid hr rfl (by omega) (by omega) W

end Go.Proofs.YtpeckiaimellmaaDoor.F
