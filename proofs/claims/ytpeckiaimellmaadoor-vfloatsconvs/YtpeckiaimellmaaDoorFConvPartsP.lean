/-
  The document's parts of a float (genparts.py wrote it).
-/
import Derived.Test.YtpeckiaimellmaaDoorFConvRefP
set_option linter.unusedVariables false
set_option linter.unusedSimpArgs false
namespace Go.Proofs.YtpeckiaimellmaaDoor.F.C
open Go.RowKit Flo

def partsV (w a : Nat) : Value := if rung (fm w) a < (fm w).infRung then .tuple #[.bool (neg (fm w) a), .int .u64 (pm w a : Int), .int .i64 (pe w a), .bool true] else .tuple #[.bool (neg (fm w) a), .int .u64 0, .int .i64 0, .bool false]
theorem partsV_inf {w a s : Nat} (h : ¬ rung (fm w) a < (fm w).infRung) (hs : neg (fm w) a = (s == 1)) : partsV w a = .tuple #[.bool (s == 1), .int .u64 0, .int .i64 0, .bool false] := by
  unfold partsV; rw [if_neg h, hs]
theorem partsV_fin {w a s : Nat} (h : rung (fm w) a < (fm w).infRung) (hs : neg (fm w) a = (s == 1)) : partsV w a = .tuple #[.bool (s == 1), .int .u64 (pm w a : Int), .int .i64 (pe w a), .bool true] := by
  unfold partsV; rw [if_pos h, hs]

theorem pfacts32 {a : Nat} (ha : a < 2 ^ 32) : ∃ s r t : Nat, rung (fm 32) a / 8388608 = r ∧ rung (fm 32) a % 8388608 = t ∧ t < 8388608 ∧ r < 256 ∧ rung (fm 32) a = 8388608 * r + t ∧ (neg (fm 32) a = (s == 1)) ∧ (s = 0 ∨ s = 1) ∧
    bits .and .u64 ((a : Int) / 2147483648) 1 = (s : Int) ∧ bits .and .u64 ((a : Int) / 8388608) 255 = (r : Int) ∧ bits .and .u64 (a : Int) 8388607 = (t : Int) := by
  have er : rung (fm 32) a = a % 2147483648 := by unfold rung; rw [show (fm 32).signWeight = 2147483648 by decide]
  have en : neg (fm 32) a = (a / 2147483648 % 2 == 1) := by unfold neg; rw [show (fm 32).signWeight = 2147483648 by decide]
  refine ⟨a / 2147483648 % 2, a / 8388608 % 256, a % 8388608, by omega, by omega, by omega, by omega, by omega, en, by omega, ?_, ?_, ?_⟩
  · have := u64_and_nat (a / 2147483648) 1 (by omega) (by decide)
    rw [show (1 : Nat) = 2 ^ 1 - 1 by decide, Nat.and_two_pow_sub_one_eq_mod] at this
    rw [show (a : Int) / 2147483648 = ((a / 2147483648 : Nat) : Int) by omega]
    exact this
  · have := u64_and_nat (a / 8388608) 255 (by omega) (by decide)
    rw [show (255 : Nat) = 2 ^ 8 - 1 by decide, Nat.and_two_pow_sub_one_eq_mod] at this
    rw [show (a : Int) / 8388608 = ((a / 8388608 : Nat) : Int) by omega]
    exact this
  · have := u64_and_nat a 8388607 (by omega) (by decide)
    rw [show (8388607 : Nat) = 2 ^ 23 - 1 by decide, Nat.and_two_pow_sub_one_eq_mod] at this
    exact this
theorem por32 {t : Nat} (h3 : t < 8388608) : bits .or .u64 (t : Int) 8388608 = ((8388608 + t : Nat) : Int) := by
  have := u64_or_nat t 8388608 (by omega) (by decide)
  rw [show (8388608 : Nat) = 2 ^ 23 * 1 by decide, Nat.or_comm, ← Nat.two_pow_add_eq_or_of_lt (by omega) 1] at this
  exact this
theorem pcase32i {a s r t : Nat} (h5 : rung (fm 32) a = 8388608 * r + t) (h6 : neg (fm 32) a = (s == 1)) (c : r = 255) : partsV 32 a = .tuple #[.bool (s == 1), .int .u64 0, .int .i64 0, .bool false] :=
  partsV_inf (by rw [show (fm 32).infRung = 2139095040 by decide]; omega) h6
theorem pcase32z {a s r t : Nat} (h3 : t < 8388608) (h5 : rung (fm 32) a = 8388608 * r + t) (h6 : neg (fm 32) a = (s == 1)) (c : r = 0) : partsV 32 a = .tuple #[.bool (s == 1), .int .u64 (t : Int), .int .i64 (-149), .bool true] := by
  have hb : (fm 32).binade = 8388608 := by decide
  have e1 : pm 32 a = t := by unfold pm; rw [hb, if_pos (by omega)]; omega
  have e2 : pe 32 a = -149 := by unfold pe; rw [hb, if_pos (by omega)]; decide
  have := partsV_fin (w := 32) (a := a) (s := s) (by rw [show (fm 32).infRung = 2139095040 by decide]; omega) h6
  rw [e1, e2] at this
  exact this
theorem pcase32n {a s r t : Nat} (h1 : rung (fm 32) a / 8388608 = r) (h2 : rung (fm 32) a % 8388608 = t) (h3 : t < 8388608) (h4 : r < 256) (h5 : rung (fm 32) a = 8388608 * r + t) (h6 : neg (fm 32) a = (s == 1)) (c : ¬ r = 0) (c' : ¬ r = 255) : partsV 32 a = .tuple #[.bool (s == 1), .int .u64 ((8388608 + t : Nat) : Int), .int .i64 ((r : Int) - 127 - 23), .bool true] := by
  have hb : (fm 32).binade = 8388608 := by decide
  have e1 : pm 32 a = 8388608 + t := by unfold pm; rw [hb, if_neg (by omega)]; omega
  have e2 : pe 32 a = (r : Int) - 127 - 23 := by unfold pe; rw [hb, if_neg (by omega), h1, show ((bi 32 : Nat) : Int) = 127 from rfl, show ((fb 32 : Nat) : Int) = 23 from rfl]
  have := partsV_fin (w := 32) (a := a) (s := s) (by rw [show (fm 32).infRung = 2139095040 by decide]; omega) h6
  rw [e1, e2] at this
  exact this
theorem rwraps32 {r : Nat} (h : r < 256) : wrap64 (r : Int) = (r : Int) ∧ wrap64 ((r : Int) - 127) = (r : Int) - 127 ∧ wrap64 ((r : Int) - 127 - 23) = (r : Int) - 127 - 23 := ⟨IntWalk.wrap64_in _ (by omega), IntWalk.wrap64_in _ (by omega), IntWalk.wrap64_in _ (by omega)⟩
theorem rtests32 {r : Nat} (c : ¬ r = 0) (c' : ¬ r = 255) : ((r : Int) == 255) = false ∧ ((r : Int) == 0) = false := ⟨by simp; omega, by simp; omega⟩

set_option maxHeartbeats 1000000 in
theorem rparts32i {a t r m : Nat} {p q : Int} {sb : Bool} (E1 : (bits .and .u64 ((a : Int) / 2147483648) 1 == 1) = sb) (E2 : bits .and .u64 ((a : Int) / 8388608) 255 = 255) (W : World) :
    Calls Tryd.prog 129 #[.int .i64 32, .int .u64 (a : Int)] W fun e W' => e = .returned (.tuple #[.bool sb, .int .u64 0, .int .i64 0, .bool false]) ∧ W' = W := by
  have F := hide (rform_calls (w := 32) (.inl rfl))
  simp only [show ((32 : Nat) : Int) = 32 from rfl, show ((fb 32 : Nat) : Int) = 23 from rfl, show ((bi 32 : Nat) : Int) = 127 from rfl] at F
  go_enter Tryd.func129, Tryd.ntmps129
  go_wp2_with ((with_reducible refine (F.out _).mono ?_); rintro e w1 ⟨rfl, rfl⟩)
  refine bodyPost_ret (v := .tuple #[.bool sb, .int .u64 0, .int .i64 0, .bool false]) (by simp [results, Tryd.results129, go_sem]) rfl ?_
  exact ⟨rfl, rfl⟩

set_option maxHeartbeats 1000000 in
theorem rparts32z {a t r m : Nat} {p q : Int} {sb : Bool} (E1 : (bits .and .u64 ((a : Int) / 2147483648) 1 == 1) = sb) (E2 : bits .and .u64 ((a : Int) / 8388608) 255 = 0) (E3 : bits .and .u64 (a : Int) 8388607 = (t : Int)) (W : World) :
    Calls Tryd.prog 129 #[.int .i64 32, .int .u64 (a : Int)] W fun e W' => e = .returned (.tuple #[.bool sb, .int .u64 (t : Int), .int .i64 (-149), .bool true]) ∧ W' = W := by
  have F := hide (rform_calls (w := 32) (.inl rfl))
  simp only [show ((32 : Nat) : Int) = 32 from rfl, show ((fb 32 : Nat) : Int) = 23 from rfl, show ((bi 32 : Nat) : Int) = 127 from rfl] at F
  go_enter Tryd.func129, Tryd.ntmps129
  go_wp2_with ((with_reducible refine (F.out _).mono ?_); rintro e w1 ⟨rfl, rfl⟩)
  refine bodyPost_ret (v := .tuple #[.bool sb, .int .u64 (t : Int), .int .i64 (-149), .bool true]) (by simp [results, Tryd.results129, go_sem]) rfl ?_
  exact ⟨rfl, rfl⟩

set_option maxHeartbeats 1000000 in
theorem rparts32n {a t r m : Nat} {p q : Int} {sb : Bool} (E1 : (bits .and .u64 ((a : Int) / 2147483648) 1 == 1) = sb) (E2 : bits .and .u64 ((a : Int) / 8388608) 255 = (r : Int)) (E3 : bits .and .u64 (a : Int) 8388607 = (t : Int)) (E4 : bits .or .u64 (t : Int) 8388608 = (m : Int)) (W1 : wrap64 (r : Int) = (r : Int)) (W2 : wrap64 ((r : Int) - 127) = p) (W3 : wrap64 (p - 23) = q) (d1 : ((r : Int) == 255) = false) (d2 : ((r : Int) == 0) = false) (W : World) :
    Calls Tryd.prog 129 #[.int .i64 32, .int .u64 (a : Int)] W fun e W' => e = .returned (.tuple #[.bool sb, .int .u64 (m : Int), .int .i64 q, .bool true]) ∧ W' = W := by
  have F := hide (rform_calls (w := 32) (.inl rfl))
  simp only [show ((32 : Nat) : Int) = 32 from rfl, show ((fb 32 : Nat) : Int) = 23 from rfl, show ((bi 32 : Nat) : Int) = 127 from rfl] at F
  go_enter Tryd.func129, Tryd.ntmps129
  go_wp2_with ((with_reducible refine (F.out _).mono ?_); rintro e w1 ⟨rfl, rfl⟩)
  refine bodyPost_ret (v := .tuple #[.bool sb, .int .u64 (m : Int), .int .i64 q, .bool true]) (by simp [results, Tryd.results129, go_sem]; exact W3) rfl ?_
  exact ⟨rfl, rfl⟩

theorem rparts32 {a : Nat} (ha : a < 2 ^ 32) (W : World) :
    Calls Tryd.prog 129 #[.int .i64 32, .int .u64 (a : Int)] W fun e W' => e = .returned (partsV 32 a) ∧ W' = W := by
  obtain ⟨s, r, t, h1, h2, h3, h4, h5, h6, h7, E1, E2, E3⟩ := pfacts32 ha
  have E1 : (bits .and .u64 ((a : Int) / 2147483648) 1 == 1) = (s == 1) := by rw [E1]; rcases h7 with rfl | rfl <;> rfl
  by_cases c1 : r = 255
  · rw [pcase32i h5 h6 c1]
    rw [c1] at E2
    exact rparts32i (t := 0) (r := 0) (m := 0) (p := 0) (q := 0) E1 E2 W
  · by_cases c2 : r = 0
    · rw [pcase32z h3 h5 h6 c2]
      rw [c2] at E2
      exact rparts32z (r := 0) (m := 0) (p := 0) (q := 0) E1 E2 E3 W
    · rw [pcase32n h1 h2 h3 h4 h5 h6 c2 c1]
      obtain ⟨W1, W2, W3⟩ := rwraps32 h4
      obtain ⟨d1, d2⟩ := rtests32 c2 c1
      exact rparts32n E1 E2 E3 (por32 h3) W1 W2 W3 d1 d2 W

theorem pfacts64 {a : Nat} (ha : a < 2 ^ 64) : ∃ s r t : Nat, rung (fm 64) a / 4503599627370496 = r ∧ rung (fm 64) a % 4503599627370496 = t ∧ t < 4503599627370496 ∧ r < 2048 ∧ rung (fm 64) a = 4503599627370496 * r + t ∧ (neg (fm 64) a = (s == 1)) ∧ (s = 0 ∨ s = 1) ∧
    bits .and .u64 ((a : Int) / 9223372036854775808) 1 = (s : Int) ∧ bits .and .u64 ((a : Int) / 4503599627370496) 2047 = (r : Int) ∧ bits .and .u64 (a : Int) 4503599627370495 = (t : Int) := by
  have er : rung (fm 64) a = a % 9223372036854775808 := by unfold rung; rw [show (fm 64).signWeight = 9223372036854775808 by decide]
  have en : neg (fm 64) a = (a / 9223372036854775808 % 2 == 1) := by unfold neg; rw [show (fm 64).signWeight = 9223372036854775808 by decide]
  refine ⟨a / 9223372036854775808 % 2, a / 4503599627370496 % 2048, a % 4503599627370496, by omega, by omega, by omega, by omega, by omega, en, by omega, ?_, ?_, ?_⟩
  · have := u64_and_nat (a / 9223372036854775808) 1 (by omega) (by decide)
    rw [show (1 : Nat) = 2 ^ 1 - 1 by decide, Nat.and_two_pow_sub_one_eq_mod] at this
    rw [show (a : Int) / 9223372036854775808 = ((a / 9223372036854775808 : Nat) : Int) by omega]
    exact this
  · have := u64_and_nat (a / 4503599627370496) 2047 (by omega) (by decide)
    rw [show (2047 : Nat) = 2 ^ 11 - 1 by decide, Nat.and_two_pow_sub_one_eq_mod] at this
    rw [show (a : Int) / 4503599627370496 = ((a / 4503599627370496 : Nat) : Int) by omega]
    exact this
  · have := u64_and_nat a 4503599627370495 (by omega) (by decide)
    rw [show (4503599627370495 : Nat) = 2 ^ 52 - 1 by decide, Nat.and_two_pow_sub_one_eq_mod] at this
    exact this
theorem por64 {t : Nat} (h3 : t < 4503599627370496) : bits .or .u64 (t : Int) 4503599627370496 = ((4503599627370496 + t : Nat) : Int) := by
  have := u64_or_nat t 4503599627370496 (by omega) (by decide)
  rw [show (4503599627370496 : Nat) = 2 ^ 52 * 1 by decide, Nat.or_comm, ← Nat.two_pow_add_eq_or_of_lt (by omega) 1] at this
  exact this
theorem pcase64i {a s r t : Nat} (h5 : rung (fm 64) a = 4503599627370496 * r + t) (h6 : neg (fm 64) a = (s == 1)) (c : r = 2047) : partsV 64 a = .tuple #[.bool (s == 1), .int .u64 0, .int .i64 0, .bool false] :=
  partsV_inf (by rw [show (fm 64).infRung = 9218868437227405312 by decide]; omega) h6
theorem pcase64z {a s r t : Nat} (h3 : t < 4503599627370496) (h5 : rung (fm 64) a = 4503599627370496 * r + t) (h6 : neg (fm 64) a = (s == 1)) (c : r = 0) : partsV 64 a = .tuple #[.bool (s == 1), .int .u64 (t : Int), .int .i64 (-1074), .bool true] := by
  have hb : (fm 64).binade = 4503599627370496 := by decide
  have e1 : pm 64 a = t := by unfold pm; rw [hb, if_pos (by omega)]; omega
  have e2 : pe 64 a = -1074 := by unfold pe; rw [hb, if_pos (by omega)]; decide
  have := partsV_fin (w := 64) (a := a) (s := s) (by rw [show (fm 64).infRung = 9218868437227405312 by decide]; omega) h6
  rw [e1, e2] at this
  exact this
theorem pcase64n {a s r t : Nat} (h1 : rung (fm 64) a / 4503599627370496 = r) (h2 : rung (fm 64) a % 4503599627370496 = t) (h3 : t < 4503599627370496) (h4 : r < 2048) (h5 : rung (fm 64) a = 4503599627370496 * r + t) (h6 : neg (fm 64) a = (s == 1)) (c : ¬ r = 0) (c' : ¬ r = 2047) : partsV 64 a = .tuple #[.bool (s == 1), .int .u64 ((4503599627370496 + t : Nat) : Int), .int .i64 ((r : Int) - 1023 - 52), .bool true] := by
  have hb : (fm 64).binade = 4503599627370496 := by decide
  have e1 : pm 64 a = 4503599627370496 + t := by unfold pm; rw [hb, if_neg (by omega)]; omega
  have e2 : pe 64 a = (r : Int) - 1023 - 52 := by unfold pe; rw [hb, if_neg (by omega), h1, show ((bi 64 : Nat) : Int) = 1023 from rfl, show ((fb 64 : Nat) : Int) = 52 from rfl]
  have := partsV_fin (w := 64) (a := a) (s := s) (by rw [show (fm 64).infRung = 9218868437227405312 by decide]; omega) h6
  rw [e1, e2] at this
  exact this
theorem rwraps64 {r : Nat} (h : r < 2048) : wrap64 (r : Int) = (r : Int) ∧ wrap64 ((r : Int) - 1023) = (r : Int) - 1023 ∧ wrap64 ((r : Int) - 1023 - 52) = (r : Int) - 1023 - 52 := ⟨IntWalk.wrap64_in _ (by omega), IntWalk.wrap64_in _ (by omega), IntWalk.wrap64_in _ (by omega)⟩
theorem rtests64 {r : Nat} (c : ¬ r = 0) (c' : ¬ r = 2047) : ((r : Int) == 2047) = false ∧ ((r : Int) == 0) = false := ⟨by simp; omega, by simp; omega⟩

set_option maxHeartbeats 1000000 in
theorem rparts64i {a t r m : Nat} {p q : Int} {sb : Bool} (E1 : (bits .and .u64 ((a : Int) / 9223372036854775808) 1 == 1) = sb) (E2 : bits .and .u64 ((a : Int) / 4503599627370496) 2047 = 2047) (W : World) :
    Calls Tryd.prog 129 #[.int .i64 64, .int .u64 (a : Int)] W fun e W' => e = .returned (.tuple #[.bool sb, .int .u64 0, .int .i64 0, .bool false]) ∧ W' = W := by
  have F := hide (rform_calls (w := 64) (.inr rfl))
  simp only [show ((64 : Nat) : Int) = 64 from rfl, show ((fb 64 : Nat) : Int) = 52 from rfl, show ((bi 64 : Nat) : Int) = 1023 from rfl] at F
  go_enter Tryd.func129, Tryd.ntmps129
  go_wp2_with ((with_reducible refine (F.out _).mono ?_); rintro e w1 ⟨rfl, rfl⟩)
  refine bodyPost_ret (v := .tuple #[.bool sb, .int .u64 0, .int .i64 0, .bool false]) (by simp [results, Tryd.results129, go_sem]) rfl ?_
  exact ⟨rfl, rfl⟩

set_option maxHeartbeats 1000000 in
theorem rparts64z {a t r m : Nat} {p q : Int} {sb : Bool} (E1 : (bits .and .u64 ((a : Int) / 9223372036854775808) 1 == 1) = sb) (E2 : bits .and .u64 ((a : Int) / 4503599627370496) 2047 = 0) (E3 : bits .and .u64 (a : Int) 4503599627370495 = (t : Int)) (W : World) :
    Calls Tryd.prog 129 #[.int .i64 64, .int .u64 (a : Int)] W fun e W' => e = .returned (.tuple #[.bool sb, .int .u64 (t : Int), .int .i64 (-1074), .bool true]) ∧ W' = W := by
  have F := hide (rform_calls (w := 64) (.inr rfl))
  simp only [show ((64 : Nat) : Int) = 64 from rfl, show ((fb 64 : Nat) : Int) = 52 from rfl, show ((bi 64 : Nat) : Int) = 1023 from rfl] at F
  go_enter Tryd.func129, Tryd.ntmps129
  go_wp2_with ((with_reducible refine (F.out _).mono ?_); rintro e w1 ⟨rfl, rfl⟩)
  refine bodyPost_ret (v := .tuple #[.bool sb, .int .u64 (t : Int), .int .i64 (-1074), .bool true]) (by simp [results, Tryd.results129, go_sem]) rfl ?_
  exact ⟨rfl, rfl⟩

set_option maxHeartbeats 1000000 in
theorem rparts64n {a t r m : Nat} {p q : Int} {sb : Bool} (E1 : (bits .and .u64 ((a : Int) / 9223372036854775808) 1 == 1) = sb) (E2 : bits .and .u64 ((a : Int) / 4503599627370496) 2047 = (r : Int)) (E3 : bits .and .u64 (a : Int) 4503599627370495 = (t : Int)) (E4 : bits .or .u64 (t : Int) 4503599627370496 = (m : Int)) (W1 : wrap64 (r : Int) = (r : Int)) (W2 : wrap64 ((r : Int) - 1023) = p) (W3 : wrap64 (p - 52) = q) (d1 : ((r : Int) == 2047) = false) (d2 : ((r : Int) == 0) = false) (W : World) :
    Calls Tryd.prog 129 #[.int .i64 64, .int .u64 (a : Int)] W fun e W' => e = .returned (.tuple #[.bool sb, .int .u64 (m : Int), .int .i64 q, .bool true]) ∧ W' = W := by
  have F := hide (rform_calls (w := 64) (.inr rfl))
  simp only [show ((64 : Nat) : Int) = 64 from rfl, show ((fb 64 : Nat) : Int) = 52 from rfl, show ((bi 64 : Nat) : Int) = 1023 from rfl] at F
  go_enter Tryd.func129, Tryd.ntmps129
  go_wp2_with ((with_reducible refine (F.out _).mono ?_); rintro e w1 ⟨rfl, rfl⟩)
  refine bodyPost_ret (v := .tuple #[.bool sb, .int .u64 (m : Int), .int .i64 q, .bool true]) (by simp [results, Tryd.results129, go_sem]; exact W3) rfl ?_
  exact ⟨rfl, rfl⟩

theorem rparts64 {a : Nat} (ha : a < 2 ^ 64) (W : World) :
    Calls Tryd.prog 129 #[.int .i64 64, .int .u64 (a : Int)] W fun e W' => e = .returned (partsV 64 a) ∧ W' = W := by
  obtain ⟨s, r, t, h1, h2, h3, h4, h5, h6, h7, E1, E2, E3⟩ := pfacts64 ha
  have E1 : (bits .and .u64 ((a : Int) / 9223372036854775808) 1 == 1) = (s == 1) := by rw [E1]; rcases h7 with rfl | rfl <;> rfl
  by_cases c1 : r = 2047
  · rw [pcase64i h5 h6 c1]
    rw [c1] at E2
    exact rparts64i (t := 0) (r := 0) (m := 0) (p := 0) (q := 0) E1 E2 W
  · by_cases c2 : r = 0
    · rw [pcase64z h3 h5 h6 c2]
      rw [c2] at E2
      exact rparts64z (r := 0) (m := 0) (p := 0) (q := 0) E1 E2 E3 W
    · rw [pcase64n h1 h2 h3 h4 h5 h6 c2 c1]
      obtain ⟨W1, W2, W3⟩ := rwraps64 h4
      obtain ⟨d1, d2⟩ := rtests64 c2 c1
      exact rparts64n E1 E2 E3 (por64 h3) W1 W2 W3 d1 d2 W

theorem rparts_calls {w a : Nat} (hw : IsW w) (ha : a < 2 ^ w) (W : World) :
    Calls Tryd.prog 129 #[.int .i64 (w : Int), .int .u64 (a : Int)] W fun e W' => e = .returned (partsV w a) ∧ W' = W := by
  rcases hw with rfl | rfl
  · exact rparts32 ha W
  · exact rparts64 ha W
end Go.Proofs.YtpeckiaimellmaaDoor.F.C
