/-
  The document's whole, shifted.
-/
import Derived.Test.YtpeckiaimellmaaDoorFConvPartsP
set_option linter.unusedVariables false
set_option linter.unusedSimpArgs false
namespace Go.Proofs.YtpeckiaimellmaaDoor.F.C
open Go.RowKit Flo

theorem div_cast (m k : Nat) : (m : Int) / 2 ^ k = ((m / 2 ^ k : Nat) : Int) := by simp
theorem wrap_cast {n : Nat} (h : n < 2 ^ 64) : IntKind.u64.wrap (n : Int) = (n : Int) := by rw [IntKind.wrap_u64]; omega
theorem wrap_mod (n : Nat) : IntKind.u64.wrap (n : Int) = ((n % 2 ^ 64 : Nat) : Int) := by rw [IntKind.wrap_u64]; omega

theorem tmod_two (q : Nat) : (q : Int).tmod 2 = ((q % 2 : Nat) : Int) := by rw [Int.tmod_eq_emod_of_nonneg (by omega)]; omega
theorem mod_two (q : Nat) : q % 2 = 0 ∨ q % 2 = 1 := by omega
def prB (p : Nat × Bool) : Value := .tuple #[.int .u64 (p.1 : Int), .bool p.2]

set_option maxHeartbeats 1000000 in
theorem rwhole_z (e : Int) (W : World) :
    Calls Tryd.prog 130 #[.int .u64 0, .int .i64 e] W fun r W' => r = .returned (.tuple #[.int .u64 0, .bool true]) ∧ W' = W := by
  go_enter Tryd.func130, Tryd.ntmps130
  go_wp2
  refine bodyPost_ret (v := .tuple #[.int .u64 0, .bool true]) (by simp [results, Tryd.results130, go_sem]) rfl ?_
  exact ⟨rfl, rfl⟩
set_option maxHeartbeats 1000000 in
theorem rwhole_l {m : Nat} {e : Int} (h0 : ((m : Int) == 0) = false) (h1 : decide (e ≤ -64) = true) (W : World) :
    Calls Tryd.prog 130 #[.int .u64 (m : Int), .int .i64 e] W fun r W' => r = .returned (.tuple #[.int .u64 0, .bool true]) ∧ W' = W := by
  go_enter Tryd.func130, Tryd.ntmps130
  go_wp2
  refine bodyPost_ret (v := .tuple #[.int .u64 0, .bool true]) (by simp [results, Tryd.results130, go_sem]) rfl ?_
  exact ⟨rfl, rfl⟩
set_option maxHeartbeats 1000000 in
theorem rwhole_d {m k q : Nat} (h0 : ((m : Int) == 0) = false) (hk : k < 64) (F1 : (m : Int) / 2 ^ k = (q : Int)) (W : World) :
    Calls Tryd.prog 130 #[.int .u64 (m : Int), .int .i64 (-(k : Int))] W fun r W' => r = .returned (.tuple #[.int .u64 (q : Int), .bool true]) ∧ W' = W := by
  have h1 : decide (64 ≤ (k : Int)) = false := by simp; omega
  go_enter Tryd.func130, Tryd.ntmps130
  go_wp2
  refine bodyPost_ret (v := .tuple #[.int .u64 (q : Int), .bool true]) (by simp [results, Tryd.results130, go_sem]; try exact F1) rfl ?_
  exact ⟨rfl, rfl⟩
set_option maxHeartbeats 1000000 in
theorem rwhole_u {m k g : Nat} {b : Bool} (hm : m < 2 ^ 64) (h0 : ((m : Int) == 0) = false) (hk : 0 < k) (hk' : k < 64) (F1 : IntKind.u64.wrap ((m : Int) * 2 ^ k) = (g : Int)) (F2 : decide (wrap64 ((bl m : Int) + (k : Int)) ≤ 64) = b) (W : World) :
    Calls Tryd.prog 130 #[.int .u64 (m : Int), .int .i64 (k : Int)] W fun r W' => r = .returned (.tuple #[.int .u64 (g : Int), .bool b]) ∧ W' = W := by
  have C := hide (rsize_calls hm)
  have h1 : decide ((k : Int) ≤ -64) = false := by simp; omega
  generalize bl m = s at *
  clear hm
  go_enter Tryd.func130, Tryd.ntmps130
  go_wp2_with ((with_reducible refine (C.out _).mono ?_); rintro e w1 ⟨rfl, rfl⟩)
  refine bodyPost_ret (v := .tuple #[.int .u64 (g : Int), .bool b]) (by simp [results, Tryd.results130, go_sem]; try exact F2) rfl ?_
  exact ⟨rfl, rfl⟩
set_option maxHeartbeats 1000000 in
theorem rwhole_g {m k g : Nat} {b : Bool} (hm : m < 2 ^ 64) (h0 : ((m : Int) == 0) = false) (hk : 64 ≤ k) (hk' : k < 2000) (F1 : IntKind.u64.wrap ((m : Int) * 9223372036854775808) = (g : Int)) (F2 : decide (wrap64 ((bl m : Int) + (k : Int)) ≤ 64) = b) (W : World) :
    Calls Tryd.prog 130 #[.int .u64 (m : Int), .int .i64 (k : Int)] W fun r W' => r = .returned (.tuple #[.int .u64 (g : Int), .bool b]) ∧ W' = W := by
  have C := hide (rsize_calls hm)
  have h1 : decide ((k : Int) ≤ -64) = false := by simp; omega
  generalize bl m = s at *
  clear hm
  go_enter Tryd.func130, Tryd.ntmps130
  go_wp2_with ((with_reducible refine (C.out _).mono ?_); rintro e w1 ⟨rfl, rfl⟩)
  refine bodyPost_ret (v := .tuple #[.int .u64 (g : Int), .bool b]) (by simp [results, Tryd.results130, go_sem]; try exact F2) rfl ?_
  exact ⟨rfl, rfl⟩

theorem rwhole_calls {m : Nat} {e : Int} (hm : m < 2 ^ 64) (he : e < 2000) (W : World) :
    Calls Tryd.prog 130 #[.int .u64 (m : Int), .int .i64 e] W fun r W' => r = .returned (prB (wholeR m e)) ∧ W' = W := by
  unfold wholeR
  by_cases c0 : m = 0
  · subst c0
    rw [if_pos (.inl rfl)]
    exact rwhole_z e W
  have h0 : ((m : Int) == 0) = false := by simp; omega
  by_cases c1 : e ≤ -64
  · rw [if_pos (.inr c1)]
    exact rwhole_l h0 (decide_eq_true c1) W
  rw [if_neg (by rintro (h | h); exact c0 h; exact c1 h)]
  by_cases c2 : e ≤ 0
  · rw [if_pos c2]
    obtain ⟨k, rfl⟩ : ∃ k : Nat, e = -(k : Int) := ⟨(-e).toNat, by omega⟩
    rw [show (-(-(k : Int))).toNat = k by omega]
    exact rwhole_d h0 (by omega) (div_cast m k) W
  · rw [if_neg c2]
    obtain ⟨k, rfl⟩ : ∃ k : Nat, e = (k : Int) := ⟨e.toNat, by omega⟩
    have hb := bl_le hm
    have F2 : decide (wrap64 ((bl m : Int) + (k : Int)) ≤ 64) = decide ((bl m : Int) + (k : Int) ≤ 64) := by rw [IntWalk.wrap64_in _ (by omega)]
    by_cases c3 : k < 64
    · rw [show (min (k : Int) 63).toNat = k by omega]
      refine rwhole_u hm h0 (by omega) c3 ?_ F2 W
      have := wrap_mod (m * 2 ^ k)
      rw [Int.natCast_mul] at this
      simpa using this
    · rw [show (min (k : Int) 63).toNat = 63 by omega]
      refine rwhole_g hm h0 (by omega) (by omega) ?_ F2 W
      have := wrap_mod (m * 2 ^ 63)
      rw [Int.natCast_mul] at this
      exact this

/-! shifted -/

set_option maxHeartbeats 1000000 in
theorem rsh_up {m k g : Nat} (hk : k < 64) (F1 : IntKind.u64.wrap ((m : Int) * 2 ^ k) = (g : Int)) (W : World) :
    Calls Tryd.prog 134 #[.int .u64 (m : Int), .int .i64 (-(k : Int))] W fun r W' => r = .returned (.int .u64 (g : Int)) ∧ W' = W := by
  go_enter Tryd.func134, Tryd.ntmps134
  go_wp2
  go_ret
  exact ⟨rfl, rfl⟩
set_option maxHeartbeats 1000000 in
theorem rsh_far {m k : Nat} (hk : 64 < k) (hk' : k < 4000) (W : World) :
    Calls Tryd.prog 134 #[.int .u64 (m : Int), .int .i64 (k : Int)] W fun r W' => r = .returned (.int .u64 0) ∧ W' = W := by
  have h1 : decide ((k : Int) ≤ 0) = false := by simp; omega
  go_enter Tryd.func134, Tryd.ntmps134
  go_wp2
  go_ret
  exact ⟨rfl, rfl⟩
set_option maxHeartbeats 1000000 in
theorem rsh_more {m k q g rest half q1 : Nat} (hk : 0 < k) (hk' : k < 64) (F1 : (m : Int) / 2 ^ k = (q : Int)) (F2 : IntKind.u64.wrap ((q : Int) * 2 ^ k) = (g : Int)) (F3 : IntKind.u64.wrap ((m : Int) - (g : Int)) = (rest : Int)) (F4 : IntKind.u64.wrap (2 ^ (k - 1)) = (half : Int)) (F6 : IntKind.u64.wrap ((q : Int) + 1) = (q1 : Int)) (c : half < rest) (W : World) :
    Calls Tryd.prog 134 #[.int .u64 (m : Int), .int .i64 (k : Int)] W fun r W' => r = .returned (.int .u64 (q1 : Int)) ∧ W' = W := by
  go_enter Tryd.func134, Tryd.ntmps134
  go_wp2
  go_ret
  exact ⟨rfl, rfl⟩
set_option maxHeartbeats 1000000 in
theorem rsh_less {m k q g rest half : Nat} (hk : 0 < k) (hk' : k < 64) (F1 : (m : Int) / 2 ^ k = (q : Int)) (F2 : IntKind.u64.wrap ((q : Int) * 2 ^ k) = (g : Int)) (F3 : IntKind.u64.wrap ((m : Int) - (g : Int)) = (rest : Int)) (F4 : IntKind.u64.wrap (2 ^ (k - 1)) = (half : Int)) (c : rest < half) (W : World) :
    Calls Tryd.prog 134 #[.int .u64 (m : Int), .int .i64 (k : Int)] W fun r W' => r = .returned (.int .u64 (q : Int)) ∧ W' = W := by
  have c1 : decide ((half : Int) < (rest : Int)) = false := by simp; omega
  have c2 : ((rest : Int) == (half : Int)) = false := by simp; omega
  have c3 : ¬ half < rest := by omega
  have c4 : ¬ rest = half := by omega
  clear c
  go_enter Tryd.func134, Tryd.ntmps134
  go_wp2
  go_ret
  exact ⟨rfl, rfl⟩
set_option maxHeartbeats 1000000 in
theorem rsh_tie {m k q g half q1 b : Nat} (hk : 0 < k) (hk' : k < 64) (F1 : (m : Int) / 2 ^ k = (q : Int)) (F2 : IntKind.u64.wrap ((q : Int) * 2 ^ k) = (g : Int)) (F3 : IntKind.u64.wrap ((m : Int) - (g : Int)) = (half : Int)) (F4 : IntKind.u64.wrap (2 ^ (k - 1)) = (half : Int)) (F6 : IntKind.u64.wrap ((q : Int) + 1) = (q1 : Int)) (F5 : (q : Int).tmod 2 = (b : Int)) (hb : b = 0 ∨ b = 1) (W : World) :
    Calls Tryd.prog 134 #[.int .u64 (m : Int), .int .i64 (k : Int)] W fun r W' => r = .returned (.int .u64 ((if b = 1 then q1 else q : Nat) : Int)) ∧ W' = W := by
  have F7 : (q : Int) % 2 = (b : Int) := by rw [← F5, Int.tmod_eq_emod_of_nonneg (by omega)]
  rcases hb with rfl | rfl
  all_goals
    simp only [show ((0 : Nat) : Int) = 0 from rfl, show ((1 : Nat) : Int) = 1 from rfl] at F5 F7
    go_enter Tryd.func134, Tryd.ntmps134
    go_wp2
    go_ret
    exact ⟨rfl, rfl⟩
set_option maxHeartbeats 1000000 in
theorem rsh_64 {m : Nat} (hm : m < 2 ^ 64) (W : World) :
    Calls Tryd.prog 134 #[.int .u64 (m : Int), .int .i64 64] W fun r W' => r = .returned (.int .u64 ((if 9223372036854775808 < m then 1 else 0 : Nat) : Int)) ∧ W' = W := by
  have F1 : IntKind.u64.wrap (m : Int) = (m : Int) := wrap_cast hm
  by_cases c : 9223372036854775808 < m
  · rw [if_pos c]
    have c1 : decide (9223372036854775808 < (m : Int)) = true := by simp; omega
    clear c hm
    go_enter Tryd.func134, Tryd.ntmps134
    go_wp2
    go_ret
    exact ⟨rfl, rfl⟩
  · rw [if_neg c]
    have c1 : decide (9223372036854775808 < (m : Int)) = false := by simp; omega
    clear c hm
    go_enter Tryd.func134, Tryd.ntmps134
    go_wp2
    all_goals
      go_ret
      exact ⟨rfl, rfl⟩

theorem shN_pos {m k : Nat} (hk : 0 < k) : shN m (k : Int) = m / 2 ^ k + (decide (2 ^ (k - 1) < m % 2 ^ k) || (decide (2 ^ (k - 1) = m % 2 ^ k) && decide (m / 2 ^ k % 2 = 1))).toNat := by
  unfold shN cutS goes
  rw [show (-(k : Int)).toNat = 0 by omega, Nat.pow_zero, Nat.mul_one, show ((k : Int)).toNat = k by omega]
  have e := half_pow hk
  congr 2
  generalize m / 2 ^ k = q
  generalize m % 2 ^ k = r
  rw [e]
  generalize 2 ^ (k - 1) = h
  simp only [Bool.beq_eq_decide_eq]
  congr 1
  · congr 1; apply propext; omega
  · congr 2; apply propext; omega

theorem rshifted_calls {m : Nat} {n : Int} (hm : m < 2 ^ 64) (h1 : n < 4000) (h2 : -64 < n) (h3 : m * 2 ^ (-n).toNat < 2 ^ 64 * 2 ^ n.toNat) (W : World) :
    Calls Tryd.prog 134 #[.int .u64 (m : Int), .int .i64 n] W fun r W' => r = .returned (.int .u64 (shN m n : Int)) ∧ W' = W := by
  by_cases c1 : n ≤ 0
  · obtain ⟨k, rfl⟩ : ∃ k : Nat, n = -(k : Int) := ⟨(-n).toNat, by omega⟩
    have e : shN m (-(k : Int)) = m * 2 ^ k := by
      unfold shN
      rw [show (-(-(k : Int))).toNat = k by omega, show (-(k : Int)).toNat = 0 by omega, cutS_zero]
    rw [show (-(-(k : Int))).toNat = k by omega, show (-(k : Int)).toNat = 0 by omega, Nat.pow_zero, Nat.mul_one] at h3
    rw [e]
    refine rsh_up (by omega) ?_ W
    have := wrap_cast h3
    rw [Int.natCast_mul] at this
    rw [Int.natCast_mul]
    simpa using this
  · obtain ⟨k, rfl⟩ : ∃ k : Nat, n = (k : Int) := ⟨n.toNat, by omega⟩
    have hk : 0 < k := by omega
    rw [shN_pos hk]
    by_cases c2 : 64 < k
    · have hl : 2 ^ 65 ≤ 2 ^ k := Nat.pow_le_pow_right (by decide) (by omega)
      have hl' : 2 ^ 64 ≤ 2 ^ (k - 1) := Nat.pow_le_pow_right (by decide) (by omega)
      have e1 : m / 2 ^ k = 0 := Nat.div_eq_of_lt (by omega)
      have e2 : m % 2 ^ k = m := Nat.mod_eq_of_lt (by omega)
      rw [e1, e2, decide_eq_false (show ¬ 2 ^ (k - 1) < m by omega), decide_eq_false (show ¬ 2 ^ (k - 1) = m by omega)]
      exact rsh_far c2 (by omega) W
    · by_cases c3 : k = 64
      · subst c3
        have e1 : m / 2 ^ 64 = 0 := Nat.div_eq_of_lt (by omega)
        have e2 : m % 2 ^ 64 = m := Nat.mod_eq_of_lt (by omega)
        rw [e1, e2]
        have := rsh_64 hm W
        by_cases c : 9223372036854775808 < m
        · rw [if_pos c] at this
          rw [decide_eq_true (show 2 ^ (64 - 1) < m by omega)]
          exact this
        · rw [if_neg c] at this
          rw [decide_eq_false (show ¬ 2 ^ (64 - 1) < m by omega)]
          simpa using this
      · have hk' : k < 64 := by omega
        have hp := Nat.two_pow_pos k
        have hd := Nat.div_add_mod m (2 ^ k)
        have hr := Nat.mod_lt m hp
        have e := half_pow hk
        have hle : 2 ^ k ≤ 2 ^ 63 := Nat.pow_le_pow_right (by decide) (by omega)
        have hq : m / 2 ^ k < 2 ^ 63 := (Nat.div_lt_iff_lt_mul hp).2 (by
          have : 2 ≤ 2 ^ k := by rw [e]; have := Nat.two_pow_pos (k - 1); omega
          have := Nat.mul_le_mul_left (2 ^ 63) this
          omega)
        have F1 := div_cast m k
        have F2 : IntKind.u64.wrap (((m / 2 ^ k : Nat) : Int) * 2 ^ k) = ((m / 2 ^ k * 2 ^ k : Nat) : Int) := by
          have h : m / 2 ^ k * 2 ^ k < 2 ^ 64 := Nat.lt_of_le_of_lt (Nat.div_mul_le_self _ _) hm
          have := wrap_cast h
          rw [Int.natCast_mul] at this
          rw [Int.natCast_mul]
          simpa using this
        have F3 : IntKind.u64.wrap ((m : Int) - ((m / 2 ^ k * 2 ^ k : Nat) : Int)) = ((m % 2 ^ k : Nat) : Int) := by
          have hd' : m / 2 ^ k * 2 ^ k + m % 2 ^ k = m := by rw [Nat.mul_comm]; exact hd
          rw [show (m : Int) - ((m / 2 ^ k * 2 ^ k : Nat) : Int) = ((m % 2 ^ k : Nat) : Int) by generalize m / 2 ^ k * 2 ^ k = u at *; generalize m % 2 ^ k = v at *; omega]
          exact wrap_cast (by omega)
        have F4 : IntKind.u64.wrap (2 ^ (k - 1)) = ((2 ^ (k - 1) : Nat) : Int) := by
          have h : 2 ^ (k - 1) < 2 ^ 64 := by omega
          have := wrap_cast h
          simpa using this
        have F6 : IntKind.u64.wrap (((m / 2 ^ k : Nat) : Int) + 1) = ((m / 2 ^ k + 1 : Nat) : Int) := by have := wrap_cast (n := m / 2 ^ k + 1) (by omega); rw [Int.natCast_add] at this; rw [Int.natCast_add]; exact this
        rcases Nat.lt_trichotomy (2 ^ (k - 1)) (m % 2 ^ k) with c | c | c
        · rw [decide_eq_true c, Bool.true_or]
          exact rsh_more hk hk' F1 F2 F3 F4 F6 c W
        · rw [← c] at F3
          rw [decide_eq_true c, ← c, decide_eq_false (Nat.lt_irrefl _), Bool.false_or, Bool.true_and]
          have := rsh_tie (b := m / 2 ^ k % 2) hk hk' F1 F2 F3 F4 F6 (tmod_two _) (mod_two _) W
          by_cases d : m / 2 ^ k % 2 = 1
          · rw [if_pos d] at this
            rw [decide_eq_true d]
            exact this
          · rw [if_neg d] at this
            rw [decide_eq_false d]
            exact this
        · rw [decide_eq_false (show ¬ 2 ^ (k - 1) < m % 2 ^ k by omega), decide_eq_false (show ¬ 2 ^ (k - 1) = m % 2 ^ k by omega)]
          exact rsh_less hk hk' F1 F2 F3 F4 c W
end Go.Proofs.YtpeckiaimellmaaDoor.F.C
