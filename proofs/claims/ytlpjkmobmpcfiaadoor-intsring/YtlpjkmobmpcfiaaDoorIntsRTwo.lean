/-
  The document's Two, operator by operator (genrtwo.py wrote it).
-/
import Derived.Test.YtlpjkmobmpcfiaaDoorIntsRefs2
set_option linter.unusedVariables false
set_option linter.unusedSimpArgs false
namespace Go.Proofs.YtlpjkmobmpcfiaaDoor
open Go.RowKit Ints

theorem isW_of {w : Nat} (hw : IsW w) : isW (w : Int) = true := (isW_iff w).2 ⟨w, rfl, hw⟩

theorem toNat_lt {w : Nat} {a : Int} (ha : Of w a) : a.toNat < 2 ^ w := by
  obtain ⟨x, rfl, hx⟩ := nat_of ha
  exact hx

theorem shl_bits {w : Nat} (hw : IsW w) {a b : Int} (ha : Of w a) : ∃ S : Nat, shlI w a b = (S : Int) ∧ S < 2 ^ w ∧ ∀ k, k < w → bit S k = srcBit a.toNat (src 11 w (sh w b) k) := by
  obtain ⟨x, rfl, hx⟩ := nat_of ha
  refine ⟨x * 2 ^ sh w b % 2 ^ w, by unfold shlI cutI; simp, Nat.mod_lt _ (Nat.two_pow_pos _), fun k hk => ?_⟩
  rw [bit_mod _ _ _ hk]
  simp only [src, Int.toNat_natCast]
  split
  · next h => rw [bit_shl_hi _ _ _ h]; rfl
  · next h => rw [bit_shl_lo _ _ _ (by omega)]; rfl

theorem shr_bits {w : Nat} (hw : IsW w) {a b : Int} (ha : Of w a) : ∃ S : Nat, shrI w a b = (S : Int) ∧ S < 2 ^ w ∧ ∀ k, k < w → bit S k = srcBit a.toNat (src 12 w (sh w b) k) := by
  obtain ⟨x, rfl, hx⟩ := nat_of ha
  refine ⟨x / 2 ^ sh w b, by unfold shrI; simp, Nat.lt_of_le_of_lt (Nat.div_le_self _ _) hx, fun k hk => ?_⟩
  rw [bit_shr]
  simp only [src, Int.toNat_natCast]
  split
  · rfl
  · next h => rw [bit_high x w _ hx (by omega)]; rfl

theorem sar_bits {w : Nat} (hw : IsW w) {a b : Int} (ha : Of w a) : ∃ S : Nat, sarI w a b = (S : Int) ∧ S < 2 ^ w ∧ ∀ k, k < w → bit S k = srcBit a.toNat (src 13 w (sh w b) k) := by
  obtain ⟨x, rfl, hx⟩ := nat_of ha
  refine ⟨sar w x (sh w b), sar_int w x _ hw.pos hx (sh_lt hw b), sar_lt w x _ hx (sh_lt hw b), fun k hk => ?_⟩
  rw [bit_sar w x _ k hw.pos hx (sh_lt hw b) hk]
  simp only [src, Int.toNat_natCast]
  split <;> rfl

theorem rotl_bits {w : Nat} (hw : IsW w) {a b : Int} (ha : Of w a) : ∃ S : Nat, rotlI w a b = (S : Int) ∧ S < 2 ^ w ∧ ∀ k, k < w → bit S k = srcBit a.toNat (src 14 w (sh w b) k) := by
  obtain ⟨x, rfl, hx⟩ := nat_of ha
  have hl := sh_lt hw b
  refine ⟨rotl w x (sh w b), rfl, rotl_lt w x _ hx (by omega), fun k hk => ?_⟩
  rw [bit_rotl w x _ k hx (by omega) hk]
  simp only [src, Int.toNat_natCast]
  rw [show k + (w - sh w b) = k + w - sh w b by omega]
  rfl

theorem rotr_bits {w : Nat} (hw : IsW w) {a b : Int} (ha : Of w a) : ∃ S : Nat, rotrI w a b = (S : Int) ∧ S < 2 ^ w ∧ ∀ k, k < w → bit S k = srcBit a.toNat (src 15 w (sh w b) k) := by
  obtain ⟨x, rfl, hx⟩ := nat_of ha
  have hl := sh_lt hw b
  refine ⟨rotl w x (w - sh w b), rfl, rotl_lt w x _ hx (by omega), fun k hk => ?_⟩
  rw [bit_rotl w x _ k hx (by omega) hk]
  simp only [src, Int.toNat_natCast]
  rw [show w - (w - sh w b) = sh w b by omega]
  rfl

theorem mean_ref {a b : Int} (h0 : 0 ≤ a) (h1 : 0 ≤ b) (l0 : a < 18446744073709551616) (l1 : b < 18446744073709551616) :
    IntKind.u64.wrap (IntKind.u64.wrap (IntKind.u64.wrap (a / 2) + IntKind.u64.wrap (b / 2)) + (a % 2 + b % 2 + 1) / 2) = (a + b + 1) / 2 := by
  have e : ∀ n : Int, 0 ≤ n → n < 18446744073709551616 → IntKind.u64.wrap n = n := fun n x y => by rw [IntKind.wrap_u64]; omega
  rw [e (a / 2) (by omega) (by omega), e (b / 2) (by omega) (by omega), e (a / 2 + b / 2) (by omega) (by omega), e _ (by omega) (by omega)]
  omega

set_option maxRecDepth 100000 in
set_option maxHeartbeats 1000000 in
theorem rtwo_1 {w : Nat} (hw : IsW w) (a b : Int) (ha : Of w a) (hb : Of w b) (W : World) :
    Calls Tryd.prog 10 #[.int .u8 1, .int .i64 (w : Int), .int .u64 a, .int .u64 b] W fun e W' => e = .returned (pairV (two 1 w a b)) ∧ W' = W := by
  have CW := width_calls (w : Int)
  rw [isW_of hw] at CW
  have CW := hide CW
  have FA := rfits_calls hw a
  rw [decide_eq_true (mo_ge ha)] at FA
  have FA := hide FA
  have FB := rfits_calls hw b
  rw [decide_eq_true (mo_ge hb)] at FB
  have FB := hide FB
  have CM := hide (@rmost_calls w hw)
  have E := and_wrap hw (a + b)
  clear ha hb
  go_enter Tryd.func10, Tryd.ntmps10
  go_wp2_with (first | (with_reducible refine (CW.out _).mono ?_; rintro e w1 ⟨rfl, rfl⟩) | (with_reducible refine (FA.out _).mono ?_; rintro e w1 ⟨rfl, rfl⟩) | (with_reducible refine (FB.out _).mono ?_; rintro e w1 ⟨rfl, rfl⟩) | (with_reducible refine (CM.out _).mono ?_; rintro e w1 ⟨rfl, rfl⟩))
  skip
  refine bodyPost_ret (v := .tuple #[.int .u64 (cutI w (a + b)), .int .i64 0]) (by simp [results, Tryd.results10, go_sem]) rfl ?_
  exact ⟨rfl, rfl⟩

set_option maxRecDepth 100000 in
set_option maxHeartbeats 1000000 in
theorem rtwo_2 {w : Nat} (hw : IsW w) (a b : Int) (ha : Of w a) (hb : Of w b) (W : World) :
    Calls Tryd.prog 10 #[.int .u8 2, .int .i64 (w : Int), .int .u64 a, .int .u64 b] W fun e W' => e = .returned (pairV (two 2 w a b)) ∧ W' = W := by
  have CW := width_calls (w : Int)
  rw [isW_of hw] at CW
  have CW := hide CW
  have FA := rfits_calls hw a
  rw [decide_eq_true (mo_ge ha)] at FA
  have FA := hide FA
  have FB := rfits_calls hw b
  rw [decide_eq_true (mo_ge hb)] at FB
  have FB := hide FB
  have CM := hide (@rmost_calls w hw)
  have E := and_wrap hw (a - b)
  clear ha hb
  go_enter Tryd.func10, Tryd.ntmps10
  go_wp2_with (first | (with_reducible refine (CW.out _).mono ?_; rintro e w1 ⟨rfl, rfl⟩) | (with_reducible refine (FA.out _).mono ?_; rintro e w1 ⟨rfl, rfl⟩) | (with_reducible refine (FB.out _).mono ?_; rintro e w1 ⟨rfl, rfl⟩) | (with_reducible refine (CM.out _).mono ?_; rintro e w1 ⟨rfl, rfl⟩))
  skip
  refine bodyPost_ret (v := .tuple #[.int .u64 (cutI w (a - b)), .int .i64 0]) (by simp [results, Tryd.results10, go_sem]) rfl ?_
  exact ⟨rfl, rfl⟩

set_option maxRecDepth 100000 in
set_option maxHeartbeats 1000000 in
theorem rtwo_3 {w : Nat} (hw : IsW w) (a b : Int) (ha : Of w a) (hb : Of w b) (W : World) :
    Calls Tryd.prog 10 #[.int .u8 3, .int .i64 (w : Int), .int .u64 a, .int .u64 b] W fun e W' => e = .returned (pairV (two 3 w a b)) ∧ W' = W := by
  have CW := width_calls (w : Int)
  rw [isW_of hw] at CW
  have CW := hide CW
  have FA := rfits_calls hw a
  rw [decide_eq_true (mo_ge ha)] at FA
  have FA := hide FA
  have FB := rfits_calls hw b
  rw [decide_eq_true (mo_ge hb)] at FB
  have FB := hide FB
  have CM := hide (@rmost_calls w hw)
  have E := and_wrap hw (a * b)
  clear ha hb
  go_enter Tryd.func10, Tryd.ntmps10
  go_wp2_with (first | (with_reducible refine (CW.out _).mono ?_; rintro e w1 ⟨rfl, rfl⟩) | (with_reducible refine (FA.out _).mono ?_; rintro e w1 ⟨rfl, rfl⟩) | (with_reducible refine (FB.out _).mono ?_; rintro e w1 ⟨rfl, rfl⟩) | (with_reducible refine (CM.out _).mono ?_; rintro e w1 ⟨rfl, rfl⟩))
  skip
  refine bodyPost_ret (v := .tuple #[.int .u64 (cutI w (a * b)), .int .i64 0]) (by simp [results, Tryd.results10, go_sem]) rfl ?_
  exact ⟨rfl, rfl⟩

set_option maxRecDepth 100000 in
set_option maxHeartbeats 1000000 in
theorem rtwo_4z {w : Nat} (hw : IsW w) (a b : Int) (ha : Of w a) (hb : Of w b) (c : b = 0) (W : World) :
    Calls Tryd.prog 10 #[.int .u8 4, .int .i64 (w : Int), .int .u64 a, .int .u64 b] W fun e W' => e = .returned (pairV (two 4 w a b)) ∧ W' = W := by
  have CW := width_calls (w : Int)
  rw [isW_of hw] at CW
  have CW := hide CW
  have FA := rfits_calls hw a
  rw [decide_eq_true (mo_ge ha)] at FA
  have FA := hide FA
  have FB := rfits_calls hw b
  rw [decide_eq_true (mo_ge hb)] at FB
  have FB := hide FB
  have T : two 4 w a b = (0, 6) := by simp [two, c]
  rw [T]
  clear T
  subst c
  have D := hide (divided_zero hw 4 a ha hb)
  clear ha hb
  go_enter Tryd.func10, Tryd.ntmps10
  go_wp2_with (first | (with_reducible refine (CW.out _).mono ?_; rintro e w1 ⟨rfl, rfl⟩) | (with_reducible refine (FA.out _).mono ?_; rintro e w1 ⟨rfl, rfl⟩) | (with_reducible refine (FB.out _).mono ?_; rintro e w1 ⟨rfl, rfl⟩) | (with_reducible refine (D.out _).mono ?_; rintro e w1 ⟨rfl, rfl⟩))
  skip
  refine bodyPost_ret (v := .tuple #[.int .u64 0, .int .i64 6]) (by simp [results, Tryd.results10, go_sem]) rfl ?_
  exact ⟨rfl, rfl⟩

set_option maxRecDepth 100000 in
set_option maxHeartbeats 1000000 in
theorem rtwo_4n {w : Nat} (hw : IsW w) (a b : Int) (ha : Of w a) (hb : Of w b) (c : ¬ b = 0) (W : World) :
    Calls Tryd.prog 10 #[.int .u8 4, .int .i64 (w : Int), .int .u64 a, .int .u64 b] W fun e W' => e = .returned (pairV (two 4 w a b)) ∧ W' = W := by
  have CW := width_calls (w : Int)
  rw [isW_of hw] at CW
  have CW := hide CW
  have FA := rfits_calls hw a
  rw [decide_eq_true (mo_ge ha)] at FA
  have FA := hide FA
  have FB := rfits_calls hw b
  rw [decide_eq_true (mo_ge hb)] at FB
  have FB := hide FB
  have T : two 4 w a b = ((a / b), 0) := by simp [two, c]
  rw [T]
  clear T
  have D := hide (divided_4 hw a b ha hb c)
  clear ha hb
  go_enter Tryd.func10, Tryd.ntmps10
  go_wp2_with (first | (with_reducible refine (CW.out _).mono ?_; rintro e w1 ⟨rfl, rfl⟩) | (with_reducible refine (FA.out _).mono ?_; rintro e w1 ⟨rfl, rfl⟩) | (with_reducible refine (FB.out _).mono ?_; rintro e w1 ⟨rfl, rfl⟩) | (with_reducible refine (D.out _).mono ?_; rintro e w1 ⟨rfl, rfl⟩))
  skip
  refine bodyPost_ret (v := .tuple #[.int .u64 (a / b), .int .i64 0]) (by simp [results, Tryd.results10, go_sem]) rfl ?_
  exact ⟨rfl, rfl⟩

set_option maxRecDepth 100000 in
set_option maxHeartbeats 1000000 in
theorem rtwo_5z {w : Nat} (hw : IsW w) (a b : Int) (ha : Of w a) (hb : Of w b) (c : b = 0) (W : World) :
    Calls Tryd.prog 10 #[.int .u8 5, .int .i64 (w : Int), .int .u64 a, .int .u64 b] W fun e W' => e = .returned (pairV (two 5 w a b)) ∧ W' = W := by
  have CW := width_calls (w : Int)
  rw [isW_of hw] at CW
  have CW := hide CW
  have FA := rfits_calls hw a
  rw [decide_eq_true (mo_ge ha)] at FA
  have FA := hide FA
  have FB := rfits_calls hw b
  rw [decide_eq_true (mo_ge hb)] at FB
  have FB := hide FB
  have T : two 5 w a b = (0, 6) := by simp [two, c]
  rw [T]
  clear T
  subst c
  have D := hide (divided_zero hw 5 a ha hb)
  clear ha hb
  go_enter Tryd.func10, Tryd.ntmps10
  go_wp2_with (first | (with_reducible refine (CW.out _).mono ?_; rintro e w1 ⟨rfl, rfl⟩) | (with_reducible refine (FA.out _).mono ?_; rintro e w1 ⟨rfl, rfl⟩) | (with_reducible refine (FB.out _).mono ?_; rintro e w1 ⟨rfl, rfl⟩) | (with_reducible refine (D.out _).mono ?_; rintro e w1 ⟨rfl, rfl⟩))
  skip
  refine bodyPost_ret (v := .tuple #[.int .u64 0, .int .i64 6]) (by simp [results, Tryd.results10, go_sem]) rfl ?_
  exact ⟨rfl, rfl⟩

set_option maxRecDepth 100000 in
set_option maxHeartbeats 1000000 in
theorem rtwo_5n {w : Nat} (hw : IsW w) (a b : Int) (ha : Of w a) (hb : Of w b) (c : ¬ b = 0) (W : World) :
    Calls Tryd.prog 10 #[.int .u8 5, .int .i64 (w : Int), .int .u64 a, .int .u64 b] W fun e W' => e = .returned (pairV (two 5 w a b)) ∧ W' = W := by
  have CW := width_calls (w : Int)
  rw [isW_of hw] at CW
  have CW := hide CW
  have FA := rfits_calls hw a
  rw [decide_eq_true (mo_ge ha)] at FA
  have FA := hide FA
  have FB := rfits_calls hw b
  rw [decide_eq_true (mo_ge hb)] at FB
  have FB := hide FB
  have T : two 5 w a b = ((a % b), 0) := by simp [two, c]
  rw [T]
  clear T
  have D := hide (divided_5 hw a b ha hb c)
  clear ha hb
  go_enter Tryd.func10, Tryd.ntmps10
  go_wp2_with (first | (with_reducible refine (CW.out _).mono ?_; rintro e w1 ⟨rfl, rfl⟩) | (with_reducible refine (FA.out _).mono ?_; rintro e w1 ⟨rfl, rfl⟩) | (with_reducible refine (FB.out _).mono ?_; rintro e w1 ⟨rfl, rfl⟩) | (with_reducible refine (D.out _).mono ?_; rintro e w1 ⟨rfl, rfl⟩))
  skip
  refine bodyPost_ret (v := .tuple #[.int .u64 (a % b), .int .i64 0]) (by simp [results, Tryd.results10, go_sem]) rfl ?_
  exact ⟨rfl, rfl⟩

set_option maxRecDepth 100000 in
set_option maxHeartbeats 1000000 in
theorem rtwo_7z {w : Nat} (hw : IsW w) (a b : Int) (ha : Of w a) (hb : Of w b) (c : b = 0) (W : World) :
    Calls Tryd.prog 10 #[.int .u8 7, .int .i64 (w : Int), .int .u64 a, .int .u64 b] W fun e W' => e = .returned (pairV (two 7 w a b)) ∧ W' = W := by
  have CW := width_calls (w : Int)
  rw [isW_of hw] at CW
  have CW := hide CW
  have FA := rfits_calls hw a
  rw [decide_eq_true (mo_ge ha)] at FA
  have FA := hide FA
  have FB := rfits_calls hw b
  rw [decide_eq_true (mo_ge hb)] at FB
  have FB := hide FB
  have T : two 7 w a b = (0, 6) := by simp [two, c]
  rw [T]
  clear T
  subst c
  have D := hide (divided_zero hw 7 a ha hb)
  clear ha hb
  go_enter Tryd.func10, Tryd.ntmps10
  go_wp2_with (first | (with_reducible refine (CW.out _).mono ?_; rintro e w1 ⟨rfl, rfl⟩) | (with_reducible refine (FA.out _).mono ?_; rintro e w1 ⟨rfl, rfl⟩) | (with_reducible refine (FB.out _).mono ?_; rintro e w1 ⟨rfl, rfl⟩) | (with_reducible refine (D.out _).mono ?_; rintro e w1 ⟨rfl, rfl⟩))
  skip
  refine bodyPost_ret (v := .tuple #[.int .u64 0, .int .i64 6]) (by simp [results, Tryd.results10, go_sem]) rfl ?_
  exact ⟨rfl, rfl⟩

set_option maxRecDepth 100000 in
set_option maxHeartbeats 1000000 in
theorem rtwo_7n {w : Nat} (hw : IsW w) (a b : Int) (ha : Of w a) (hb : Of w b) (c : ¬ b = 0) (W : World) :
    Calls Tryd.prog 10 #[.int .u8 7, .int .i64 (w : Int), .int .u64 a, .int .u64 b] W fun e W' => e = .returned (pairV (two 7 w a b)) ∧ W' = W := by
  have CW := width_calls (w : Int)
  rw [isW_of hw] at CW
  have CW := hide CW
  have FA := rfits_calls hw a
  rw [decide_eq_true (mo_ge ha)] at FA
  have FA := hide FA
  have FB := rfits_calls hw b
  rw [decide_eq_true (mo_ge hb)] at FB
  have FB := hide FB
  have T : two 7 w a b = ((remS w a b), 0) := by simp [two, c]
  rw [T]
  clear T
  have D := hide (divided_7 hw a b ha hb c)
  clear ha hb
  go_enter Tryd.func10, Tryd.ntmps10
  go_wp2_with (first | (with_reducible refine (CW.out _).mono ?_; rintro e w1 ⟨rfl, rfl⟩) | (with_reducible refine (FA.out _).mono ?_; rintro e w1 ⟨rfl, rfl⟩) | (with_reducible refine (FB.out _).mono ?_; rintro e w1 ⟨rfl, rfl⟩) | (with_reducible refine (D.out _).mono ?_; rintro e w1 ⟨rfl, rfl⟩))
  skip
  refine bodyPost_ret (v := .tuple #[.int .u64 (remS w a b), .int .i64 0]) (by simp [results, Tryd.results10, go_sem]) rfl ?_
  exact ⟨rfl, rfl⟩

set_option maxRecDepth 100000 in
set_option maxHeartbeats 1000000 in
theorem rtwo_6z {w : Nat} (hw : IsW w) (a b : Int) (ha : Of w a) (hb : Of w b) (c : b = 0) (W : World) :
    Calls Tryd.prog 10 #[.int .u8 6, .int .i64 (w : Int), .int .u64 a, .int .u64 b] W fun e W' => e = .returned (pairV (two 6 w a b)) ∧ W' = W := by
  have CW := width_calls (w : Int)
  rw [isW_of hw] at CW
  have CW := hide CW
  have FA := rfits_calls hw a
  rw [decide_eq_true (mo_ge ha)] at FA
  have FA := hide FA
  have FB := rfits_calls hw b
  rw [decide_eq_true (mo_ge hb)] at FB
  have FB := hide FB
  have T : two 6 w a b = (0, 6) := by simp [two, c]
  rw [T]
  clear T
  subst c
  have D := hide (divided_zero hw 6 a ha hb)
  clear ha hb
  go_enter Tryd.func10, Tryd.ntmps10
  go_wp2_with (first | (with_reducible refine (CW.out _).mono ?_; rintro e w1 ⟨rfl, rfl⟩) | (with_reducible refine (FA.out _).mono ?_; rintro e w1 ⟨rfl, rfl⟩) | (with_reducible refine (FB.out _).mono ?_; rintro e w1 ⟨rfl, rfl⟩) | (with_reducible refine (D.out _).mono ?_; rintro e w1 ⟨rfl, rfl⟩))
  skip
  refine bodyPost_ret (v := .tuple #[.int .u64 0, .int .i64 6]) (by simp [results, Tryd.results10, go_sem]) rfl ?_
  exact ⟨rfl, rfl⟩

set_option maxRecDepth 100000 in
set_option maxHeartbeats 1000000 in
theorem rtwo_6t {w : Nat} (hw : IsW w) (a b : Int) (ha : Of w a) (hb : Of w b) (c : ¬ b = 0) (c2 : traps w a b = true) (W : World) :
    Calls Tryd.prog 10 #[.int .u8 6, .int .i64 (w : Int), .int .u64 a, .int .u64 b] W fun e W' => e = .returned (pairV (two 6 w a b)) ∧ W' = W := by
  have CW := width_calls (w : Int)
  rw [isW_of hw] at CW
  have CW := hide CW
  have FA := rfits_calls hw a
  rw [decide_eq_true (mo_ge ha)] at FA
  have FA := hide FA
  have FB := rfits_calls hw b
  rw [decide_eq_true (mo_ge hb)] at FB
  have FB := hide FB
  have T : two 6 w a b = (0, 6) := by simp [two, c2]
  rw [T]
  clear T
  have D := hide (divided_6t hw a b ha hb c c2)
  clear ha hb
  go_enter Tryd.func10, Tryd.ntmps10
  go_wp2_with (first | (with_reducible refine (CW.out _).mono ?_; rintro e w1 ⟨rfl, rfl⟩) | (with_reducible refine (FA.out _).mono ?_; rintro e w1 ⟨rfl, rfl⟩) | (with_reducible refine (FB.out _).mono ?_; rintro e w1 ⟨rfl, rfl⟩) | (with_reducible refine (D.out _).mono ?_; rintro e w1 ⟨rfl, rfl⟩))
  skip
  refine bodyPost_ret (v := .tuple #[.int .u64 0, .int .i64 6]) (by simp [results, Tryd.results10, go_sem]) rfl ?_
  exact ⟨rfl, rfl⟩

set_option maxRecDepth 100000 in
set_option maxHeartbeats 1000000 in
theorem rtwo_6n {w : Nat} (hw : IsW w) (a b : Int) (ha : Of w a) (hb : Of w b) (c : ¬ b = 0) (c2 : traps w a b = false) (W : World) :
    Calls Tryd.prog 10 #[.int .u8 6, .int .i64 (w : Int), .int .u64 a, .int .u64 b] W fun e W' => e = .returned (pairV (two 6 w a b)) ∧ W' = W := by
  have CW := width_calls (w : Int)
  rw [isW_of hw] at CW
  have CW := hide CW
  have FA := rfits_calls hw a
  rw [decide_eq_true (mo_ge ha)] at FA
  have FA := hide FA
  have FB := rfits_calls hw b
  rw [decide_eq_true (mo_ge hb)] at FB
  have FB := hide FB
  have T : two 6 w a b = (divS w a b, 0) := by simp [two, c, c2]
  rw [T]
  clear T
  have D := hide (divided_6n hw a b ha hb c c2)
  clear ha hb
  go_enter Tryd.func10, Tryd.ntmps10
  go_wp2_with (first | (with_reducible refine (CW.out _).mono ?_; rintro e w1 ⟨rfl, rfl⟩) | (with_reducible refine (FA.out _).mono ?_; rintro e w1 ⟨rfl, rfl⟩) | (with_reducible refine (FB.out _).mono ?_; rintro e w1 ⟨rfl, rfl⟩) | (with_reducible refine (D.out _).mono ?_; rintro e w1 ⟨rfl, rfl⟩))
  skip
  refine bodyPost_ret (v := .tuple #[.int .u64 (divS w a b), .int .i64 0]) (by simp [results, Tryd.results10, go_sem]) rfl ?_
  exact ⟨rfl, rfl⟩

set_option maxRecDepth 100000 in
set_option maxHeartbeats 1000000 in
theorem rtwo_8 {w : Nat} (hw : IsW w) (a b : Int) (ha : Of w a) (hb : Of w b) (W : World) :
    Calls Tryd.prog 10 #[.int .u8 8, .int .i64 (w : Int), .int .u64 a, .int .u64 b] W fun e W' => e = .returned (pairV (two 8 w a b)) ∧ W' = W := by
  have CW := width_calls (w : Int)
  rw [isW_of hw] at CW
  have CW := hide CW
  have FA := rfits_calls hw a
  rw [decide_eq_true (mo_ge ha)] at FA
  have FA := hide FA
  have FB := rfits_calls hw b
  rw [decide_eq_true (mo_ge hb)] at FB
  have FB := hide FB
  have D := rbits_calls hw 8 a b ha hb (a.toNat &&& b.toNat) (Nat.and_lt_two_pow _ (toNat_lt hb)) (.inl ⟨rfl, rfl⟩)
  rw [show ((a.toNat &&& b.toNat : Nat) : Int) = andI a b from rfl] at D
  have D := hide D
  clear ha hb
  go_enter Tryd.func10, Tryd.ntmps10
  go_wp2_with (first | (with_reducible refine (CW.out _).mono ?_; rintro e w1 ⟨rfl, rfl⟩) | (with_reducible refine (FA.out _).mono ?_; rintro e w1 ⟨rfl, rfl⟩) | (with_reducible refine (FB.out _).mono ?_; rintro e w1 ⟨rfl, rfl⟩) | (with_reducible refine (D.out _).mono ?_; rintro e w1 ⟨rfl, rfl⟩))
  skip
  refine bodyPost_ret (v := .tuple #[.int .u64 (andI a b), .int .i64 0]) (by simp [results, Tryd.results10, go_sem]) rfl ?_
  exact ⟨rfl, rfl⟩

set_option maxRecDepth 100000 in
set_option maxHeartbeats 1000000 in
theorem rtwo_9 {w : Nat} (hw : IsW w) (a b : Int) (ha : Of w a) (hb : Of w b) (W : World) :
    Calls Tryd.prog 10 #[.int .u8 9, .int .i64 (w : Int), .int .u64 a, .int .u64 b] W fun e W' => e = .returned (pairV (two 9 w a b)) ∧ W' = W := by
  have CW := width_calls (w : Int)
  rw [isW_of hw] at CW
  have CW := hide CW
  have FA := rfits_calls hw a
  rw [decide_eq_true (mo_ge ha)] at FA
  have FA := hide FA
  have FB := rfits_calls hw b
  rw [decide_eq_true (mo_ge hb)] at FB
  have FB := hide FB
  have D := rbits_calls hw 9 a b ha hb (a.toNat ||| b.toNat) (Nat.or_lt_two_pow (toNat_lt ha) (toNat_lt hb)) (.inr (.inl ⟨rfl, rfl⟩))
  rw [show ((a.toNat ||| b.toNat : Nat) : Int) = orI a b from rfl] at D
  have D := hide D
  clear ha hb
  go_enter Tryd.func10, Tryd.ntmps10
  go_wp2_with (first | (with_reducible refine (CW.out _).mono ?_; rintro e w1 ⟨rfl, rfl⟩) | (with_reducible refine (FA.out _).mono ?_; rintro e w1 ⟨rfl, rfl⟩) | (with_reducible refine (FB.out _).mono ?_; rintro e w1 ⟨rfl, rfl⟩) | (with_reducible refine (D.out _).mono ?_; rintro e w1 ⟨rfl, rfl⟩))
  skip
  refine bodyPost_ret (v := .tuple #[.int .u64 (orI a b), .int .i64 0]) (by simp [results, Tryd.results10, go_sem]) rfl ?_
  exact ⟨rfl, rfl⟩

set_option maxRecDepth 100000 in
set_option maxHeartbeats 1000000 in
theorem rtwo_10 {w : Nat} (hw : IsW w) (a b : Int) (ha : Of w a) (hb : Of w b) (W : World) :
    Calls Tryd.prog 10 #[.int .u8 10, .int .i64 (w : Int), .int .u64 a, .int .u64 b] W fun e W' => e = .returned (pairV (two 10 w a b)) ∧ W' = W := by
  have CW := width_calls (w : Int)
  rw [isW_of hw] at CW
  have CW := hide CW
  have FA := rfits_calls hw a
  rw [decide_eq_true (mo_ge ha)] at FA
  have FA := hide FA
  have FB := rfits_calls hw b
  rw [decide_eq_true (mo_ge hb)] at FB
  have FB := hide FB
  have D := rbits_calls hw 10 a b ha hb (a.toNat ^^^ b.toNat) (Nat.xor_lt_two_pow (toNat_lt ha) (toNat_lt hb)) (.inr (.inr ⟨rfl, rfl⟩))
  rw [show ((a.toNat ^^^ b.toNat : Nat) : Int) = xorI a b from rfl] at D
  have D := hide D
  clear ha hb
  go_enter Tryd.func10, Tryd.ntmps10
  go_wp2_with (first | (with_reducible refine (CW.out _).mono ?_; rintro e w1 ⟨rfl, rfl⟩) | (with_reducible refine (FA.out _).mono ?_; rintro e w1 ⟨rfl, rfl⟩) | (with_reducible refine (FB.out _).mono ?_; rintro e w1 ⟨rfl, rfl⟩) | (with_reducible refine (D.out _).mono ?_; rintro e w1 ⟨rfl, rfl⟩))
  skip
  refine bodyPost_ret (v := .tuple #[.int .u64 (xorI a b), .int .i64 0]) (by simp [results, Tryd.results10, go_sem]) rfl ?_
  exact ⟨rfl, rfl⟩

set_option maxRecDepth 100000 in
set_option maxHeartbeats 1000000 in
theorem rtwo_11 {w : Nat} (hw : IsW w) (a b : Int) (ha : Of w a) (hb : Of w b) (W : World) :
    Calls Tryd.prog 10 #[.int .u8 11, .int .i64 (w : Int), .int .u64 a, .int .u64 b] W fun e W' => e = .returned (pairV (two 11 w a b)) ∧ W' = W := by
  have CW := width_calls (w : Int)
  rw [isW_of hw] at CW
  have CW := hide CW
  have FA := rfits_calls hw a
  rw [decide_eq_true (mo_ge ha)] at FA
  have FA := hide FA
  have FB := rfits_calls hw b
  rw [decide_eq_true (mo_ge hb)] at FB
  have FB := hide FB
  obtain ⟨S, hS, hlt, hbit⟩ := shl_bits hw (b := b) ha
  have D := rmoved_calls hw 11 a b ha hb S hlt (by simp) hbit
  rw [← hS] at D
  simp only [show ((11 : Nat) : Int) = 11 from rfl] at D
  have D := hide D
  clear hbit hlt hS
  clear ha hb
  go_enter Tryd.func10, Tryd.ntmps10
  go_wp2_with (first | (with_reducible refine (CW.out _).mono ?_; rintro e w1 ⟨rfl, rfl⟩) | (with_reducible refine (FA.out _).mono ?_; rintro e w1 ⟨rfl, rfl⟩) | (with_reducible refine (FB.out _).mono ?_; rintro e w1 ⟨rfl, rfl⟩) | (with_reducible refine (D.out _).mono ?_; rintro e w1 ⟨rfl, rfl⟩))
  skip
  refine bodyPost_ret (v := .tuple #[.int .u64 (shlI w a b), .int .i64 0]) (by simp [results, Tryd.results10, go_sem]) rfl ?_
  exact ⟨rfl, rfl⟩

set_option maxRecDepth 100000 in
set_option maxHeartbeats 1000000 in
theorem rtwo_12 {w : Nat} (hw : IsW w) (a b : Int) (ha : Of w a) (hb : Of w b) (W : World) :
    Calls Tryd.prog 10 #[.int .u8 12, .int .i64 (w : Int), .int .u64 a, .int .u64 b] W fun e W' => e = .returned (pairV (two 12 w a b)) ∧ W' = W := by
  have CW := width_calls (w : Int)
  rw [isW_of hw] at CW
  have CW := hide CW
  have FA := rfits_calls hw a
  rw [decide_eq_true (mo_ge ha)] at FA
  have FA := hide FA
  have FB := rfits_calls hw b
  rw [decide_eq_true (mo_ge hb)] at FB
  have FB := hide FB
  obtain ⟨S, hS, hlt, hbit⟩ := shr_bits hw (b := b) ha
  have D := rmoved_calls hw 12 a b ha hb S hlt (by simp) hbit
  rw [← hS] at D
  simp only [show ((12 : Nat) : Int) = 12 from rfl] at D
  have D := hide D
  clear hbit hlt hS
  clear ha hb
  go_enter Tryd.func10, Tryd.ntmps10
  go_wp2_with (first | (with_reducible refine (CW.out _).mono ?_; rintro e w1 ⟨rfl, rfl⟩) | (with_reducible refine (FA.out _).mono ?_; rintro e w1 ⟨rfl, rfl⟩) | (with_reducible refine (FB.out _).mono ?_; rintro e w1 ⟨rfl, rfl⟩) | (with_reducible refine (D.out _).mono ?_; rintro e w1 ⟨rfl, rfl⟩))
  skip
  refine bodyPost_ret (v := .tuple #[.int .u64 (shrI w a b), .int .i64 0]) (by simp [results, Tryd.results10, go_sem]) rfl ?_
  exact ⟨rfl, rfl⟩

set_option maxRecDepth 100000 in
set_option maxHeartbeats 1000000 in
theorem rtwo_13 {w : Nat} (hw : IsW w) (a b : Int) (ha : Of w a) (hb : Of w b) (W : World) :
    Calls Tryd.prog 10 #[.int .u8 13, .int .i64 (w : Int), .int .u64 a, .int .u64 b] W fun e W' => e = .returned (pairV (two 13 w a b)) ∧ W' = W := by
  have CW := width_calls (w : Int)
  rw [isW_of hw] at CW
  have CW := hide CW
  have FA := rfits_calls hw a
  rw [decide_eq_true (mo_ge ha)] at FA
  have FA := hide FA
  have FB := rfits_calls hw b
  rw [decide_eq_true (mo_ge hb)] at FB
  have FB := hide FB
  obtain ⟨S, hS, hlt, hbit⟩ := sar_bits hw (b := b) ha
  have D := rmoved_calls hw 13 a b ha hb S hlt (by simp) hbit
  rw [← hS] at D
  simp only [show ((13 : Nat) : Int) = 13 from rfl] at D
  have D := hide D
  clear hbit hlt hS
  clear ha hb
  go_enter Tryd.func10, Tryd.ntmps10
  go_wp2_with (first | (with_reducible refine (CW.out _).mono ?_; rintro e w1 ⟨rfl, rfl⟩) | (with_reducible refine (FA.out _).mono ?_; rintro e w1 ⟨rfl, rfl⟩) | (with_reducible refine (FB.out _).mono ?_; rintro e w1 ⟨rfl, rfl⟩) | (with_reducible refine (D.out _).mono ?_; rintro e w1 ⟨rfl, rfl⟩))
  skip
  refine bodyPost_ret (v := .tuple #[.int .u64 (sarI w a b), .int .i64 0]) (by simp [results, Tryd.results10, go_sem]) rfl ?_
  exact ⟨rfl, rfl⟩

set_option maxRecDepth 100000 in
set_option maxHeartbeats 1000000 in
theorem rtwo_14 {w : Nat} (hw : IsW w) (a b : Int) (ha : Of w a) (hb : Of w b) (W : World) :
    Calls Tryd.prog 10 #[.int .u8 14, .int .i64 (w : Int), .int .u64 a, .int .u64 b] W fun e W' => e = .returned (pairV (two 14 w a b)) ∧ W' = W := by
  have CW := width_calls (w : Int)
  rw [isW_of hw] at CW
  have CW := hide CW
  have FA := rfits_calls hw a
  rw [decide_eq_true (mo_ge ha)] at FA
  have FA := hide FA
  have FB := rfits_calls hw b
  rw [decide_eq_true (mo_ge hb)] at FB
  have FB := hide FB
  obtain ⟨S, hS, hlt, hbit⟩ := rotl_bits hw (b := b) ha
  have D := rmoved_calls hw 14 a b ha hb S hlt (by simp) hbit
  rw [← hS] at D
  simp only [show ((14 : Nat) : Int) = 14 from rfl] at D
  have D := hide D
  clear hbit hlt hS
  clear ha hb
  go_enter Tryd.func10, Tryd.ntmps10
  go_wp2_with (first | (with_reducible refine (CW.out _).mono ?_; rintro e w1 ⟨rfl, rfl⟩) | (with_reducible refine (FA.out _).mono ?_; rintro e w1 ⟨rfl, rfl⟩) | (with_reducible refine (FB.out _).mono ?_; rintro e w1 ⟨rfl, rfl⟩) | (with_reducible refine (D.out _).mono ?_; rintro e w1 ⟨rfl, rfl⟩))
  skip
  refine bodyPost_ret (v := .tuple #[.int .u64 (rotlI w a b), .int .i64 0]) (by simp [results, Tryd.results10, go_sem]) rfl ?_
  exact ⟨rfl, rfl⟩

set_option maxRecDepth 100000 in
set_option maxHeartbeats 1000000 in
theorem rtwo_15 {w : Nat} (hw : IsW w) (a b : Int) (ha : Of w a) (hb : Of w b) (W : World) :
    Calls Tryd.prog 10 #[.int .u8 15, .int .i64 (w : Int), .int .u64 a, .int .u64 b] W fun e W' => e = .returned (pairV (two 15 w a b)) ∧ W' = W := by
  have CW := width_calls (w : Int)
  rw [isW_of hw] at CW
  have CW := hide CW
  have FA := rfits_calls hw a
  rw [decide_eq_true (mo_ge ha)] at FA
  have FA := hide FA
  have FB := rfits_calls hw b
  rw [decide_eq_true (mo_ge hb)] at FB
  have FB := hide FB
  obtain ⟨S, hS, hlt, hbit⟩ := rotr_bits hw (b := b) ha
  have D := rmoved_calls hw 15 a b ha hb S hlt (by simp) hbit
  rw [← hS] at D
  simp only [show ((15 : Nat) : Int) = 15 from rfl] at D
  have D := hide D
  clear hbit hlt hS
  clear ha hb
  go_enter Tryd.func10, Tryd.ntmps10
  go_wp2_with (first | (with_reducible refine (CW.out _).mono ?_; rintro e w1 ⟨rfl, rfl⟩) | (with_reducible refine (FA.out _).mono ?_; rintro e w1 ⟨rfl, rfl⟩) | (with_reducible refine (FB.out _).mono ?_; rintro e w1 ⟨rfl, rfl⟩) | (with_reducible refine (D.out _).mono ?_; rintro e w1 ⟨rfl, rfl⟩))
  skip
  refine bodyPost_ret (v := .tuple #[.int .u64 (rotrI w a b), .int .i64 0]) (by simp [results, Tryd.results10, go_sem]) rfl ?_
  exact ⟨rfl, rfl⟩

set_option maxRecDepth 100000 in
set_option maxHeartbeats 1000000 in
theorem rtwo_16 {w : Nat} (hw : IsW w) (a b : Int) (ha : Of w a) (hb : Of w b) (W : World) :
    Calls Tryd.prog 10 #[.int .u8 16, .int .i64 (w : Int), .int .u64 a, .int .u64 b] W fun e W' => e = .returned (pairV (two 16 w a b)) ∧ W' = W := by
  have CW := width_calls (w : Int)
  rw [isW_of hw] at CW
  have CW := hide CW
  have FA := rfits_calls hw a
  rw [decide_eq_true (mo_ge ha)] at FA
  have FA := hide FA
  have FB := rfits_calls hw b
  rw [decide_eq_true (mo_ge hb)] at FB
  have FB := hide FB
  have D := hide (held_16 hw a b ha hb)
  clear ha hb
  go_enter Tryd.func10, Tryd.ntmps10
  go_wp2_with (first | (with_reducible refine (CW.out _).mono ?_; rintro e w1 ⟨rfl, rfl⟩) | (with_reducible refine (FA.out _).mono ?_; rintro e w1 ⟨rfl, rfl⟩) | (with_reducible refine (FB.out _).mono ?_; rintro e w1 ⟨rfl, rfl⟩) | (with_reducible refine (D.out _).mono ?_; rintro e w1 ⟨rfl, rfl⟩))
  skip
  refine bodyPost_ret (v := .tuple #[.int .u64 (min (a + b) (mo w)), .int .i64 0]) (by simp [results, Tryd.results10, go_sem]) rfl ?_
  exact ⟨rfl, rfl⟩

set_option maxRecDepth 100000 in
set_option maxHeartbeats 1000000 in
theorem rtwo_17 {w : Nat} (hw : IsW w) (a b : Int) (ha : Of w a) (hb : Of w b) (W : World) :
    Calls Tryd.prog 10 #[.int .u8 17, .int .i64 (w : Int), .int .u64 a, .int .u64 b] W fun e W' => e = .returned (pairV (two 17 w a b)) ∧ W' = W := by
  have CW := width_calls (w : Int)
  rw [isW_of hw] at CW
  have CW := hide CW
  have FA := rfits_calls hw a
  rw [decide_eq_true (mo_ge ha)] at FA
  have FA := hide FA
  have FB := rfits_calls hw b
  rw [decide_eq_true (mo_ge hb)] at FB
  have FB := hide FB
  have D := hide (held_17 hw a b ha hb)
  clear ha hb
  go_enter Tryd.func10, Tryd.ntmps10
  go_wp2_with (first | (with_reducible refine (CW.out _).mono ?_; rintro e w1 ⟨rfl, rfl⟩) | (with_reducible refine (FA.out _).mono ?_; rintro e w1 ⟨rfl, rfl⟩) | (with_reducible refine (FB.out _).mono ?_; rintro e w1 ⟨rfl, rfl⟩) | (with_reducible refine (D.out _).mono ?_; rintro e w1 ⟨rfl, rfl⟩))
  skip
  refine bodyPost_ret (v := .tuple #[.int .u64 (max (a - b) 0), .int .i64 0]) (by simp [results, Tryd.results10, go_sem]) rfl ?_
  exact ⟨rfl, rfl⟩

set_option maxRecDepth 100000 in
set_option maxHeartbeats 1000000 in
theorem rtwo_18 {w : Nat} (hw : IsW w) (a b : Int) (ha : Of w a) (hb : Of w b) (W : World) :
    Calls Tryd.prog 10 #[.int .u8 18, .int .i64 (w : Int), .int .u64 a, .int .u64 b] W fun e W' => e = .returned (pairV (two 18 w a b)) ∧ W' = W := by
  have CW := width_calls (w : Int)
  rw [isW_of hw] at CW
  have CW := hide CW
  have FA := rfits_calls hw a
  rw [decide_eq_true (mo_ge ha)] at FA
  have FA := hide FA
  have FB := rfits_calls hw b
  rw [decide_eq_true (mo_ge hb)] at FB
  have FB := hide FB
  have D := hide (held_18 hw a b ha hb)
  clear ha hb
  go_enter Tryd.func10, Tryd.ntmps10
  go_wp2_with (first | (with_reducible refine (CW.out _).mono ?_; rintro e w1 ⟨rfl, rfl⟩) | (with_reducible refine (FA.out _).mono ?_; rintro e w1 ⟨rfl, rfl⟩) | (with_reducible refine (FB.out _).mono ?_; rintro e w1 ⟨rfl, rfl⟩) | (with_reducible refine (D.out _).mono ?_; rintro e w1 ⟨rfl, rfl⟩))
  skip
  refine bodyPost_ret (v := .tuple #[.int .u64 (addH w a b), .int .i64 0]) (by simp [results, Tryd.results10, go_sem]) rfl ?_
  exact ⟨rfl, rfl⟩

set_option maxRecDepth 100000 in
set_option maxHeartbeats 1000000 in
theorem rtwo_19 {w : Nat} (hw : IsW w) (a b : Int) (ha : Of w a) (hb : Of w b) (W : World) :
    Calls Tryd.prog 10 #[.int .u8 19, .int .i64 (w : Int), .int .u64 a, .int .u64 b] W fun e W' => e = .returned (pairV (two 19 w a b)) ∧ W' = W := by
  have CW := width_calls (w : Int)
  rw [isW_of hw] at CW
  have CW := hide CW
  have FA := rfits_calls hw a
  rw [decide_eq_true (mo_ge ha)] at FA
  have FA := hide FA
  have FB := rfits_calls hw b
  rw [decide_eq_true (mo_ge hb)] at FB
  have FB := hide FB
  have D := hide (held_19 hw a b ha hb)
  clear ha hb
  go_enter Tryd.func10, Tryd.ntmps10
  go_wp2_with (first | (with_reducible refine (CW.out _).mono ?_; rintro e w1 ⟨rfl, rfl⟩) | (with_reducible refine (FA.out _).mono ?_; rintro e w1 ⟨rfl, rfl⟩) | (with_reducible refine (FB.out _).mono ?_; rintro e w1 ⟨rfl, rfl⟩) | (with_reducible refine (D.out _).mono ?_; rintro e w1 ⟨rfl, rfl⟩))
  skip
  refine bodyPost_ret (v := .tuple #[.int .u64 (subH w a b), .int .i64 0]) (by simp [results, Tryd.results10, go_sem]) rfl ?_
  exact ⟨rfl, rfl⟩

set_option maxRecDepth 100000 in
set_option maxHeartbeats 1000000 in
theorem rtwo_20 {w : Nat} (hw : IsW w) (a b : Int) (ha : Of w a) (hb : Of w b) (W : World) :
    Calls Tryd.prog 10 #[.int .u8 20, .int .i64 (w : Int), .int .u64 a, .int .u64 b] W fun e W' => e = .returned (pairV (two 20 w a b)) ∧ W' = W := by
  have CW := width_calls (w : Int)
  rw [isW_of hw] at CW
  have CW := hide CW
  have FA := rfits_calls hw a
  rw [decide_eq_true (mo_ge ha)] at FA
  have FA := hide FA
  have FB := rfits_calls hw b
  rw [decide_eq_true (mo_ge hb)] at FB
  have FB := hide FB
  have D := hide (fun W => oneOf_calls hw 20 a b ha hb (min a b) W (.inl ⟨rfl, rfl⟩))
  clear ha hb
  go_enter Tryd.func10, Tryd.ntmps10
  go_wp2_with (first | (with_reducible refine (CW.out _).mono ?_; rintro e w1 ⟨rfl, rfl⟩) | (with_reducible refine (FA.out _).mono ?_; rintro e w1 ⟨rfl, rfl⟩) | (with_reducible refine (FB.out _).mono ?_; rintro e w1 ⟨rfl, rfl⟩) | (with_reducible refine (D.out _).mono ?_; rintro e w1 ⟨rfl, rfl⟩))
  skip
  refine bodyPost_ret (v := .tuple #[.int .u64 (min a b), .int .i64 0]) (by simp [results, Tryd.results10, go_sem]) rfl ?_
  exact ⟨rfl, rfl⟩

set_option maxRecDepth 100000 in
set_option maxHeartbeats 1000000 in
theorem rtwo_21 {w : Nat} (hw : IsW w) (a b : Int) (ha : Of w a) (hb : Of w b) (W : World) :
    Calls Tryd.prog 10 #[.int .u8 21, .int .i64 (w : Int), .int .u64 a, .int .u64 b] W fun e W' => e = .returned (pairV (two 21 w a b)) ∧ W' = W := by
  have CW := width_calls (w : Int)
  rw [isW_of hw] at CW
  have CW := hide CW
  have FA := rfits_calls hw a
  rw [decide_eq_true (mo_ge ha)] at FA
  have FA := hide FA
  have FB := rfits_calls hw b
  rw [decide_eq_true (mo_ge hb)] at FB
  have FB := hide FB
  have D := hide (fun W => oneOf_calls hw 21 a b ha hb (max a b) W (.inr (.inl ⟨rfl, rfl⟩)))
  clear ha hb
  go_enter Tryd.func10, Tryd.ntmps10
  go_wp2_with (first | (with_reducible refine (CW.out _).mono ?_; rintro e w1 ⟨rfl, rfl⟩) | (with_reducible refine (FA.out _).mono ?_; rintro e w1 ⟨rfl, rfl⟩) | (with_reducible refine (FB.out _).mono ?_; rintro e w1 ⟨rfl, rfl⟩) | (with_reducible refine (D.out _).mono ?_; rintro e w1 ⟨rfl, rfl⟩))
  skip
  refine bodyPost_ret (v := .tuple #[.int .u64 (max a b), .int .i64 0]) (by simp [results, Tryd.results10, go_sem]) rfl ?_
  exact ⟨rfl, rfl⟩

set_option maxRecDepth 100000 in
set_option maxHeartbeats 1000000 in
theorem rtwo_22 {w : Nat} (hw : IsW w) (a b : Int) (ha : Of w a) (hb : Of w b) (W : World) :
    Calls Tryd.prog 10 #[.int .u8 22, .int .i64 (w : Int), .int .u64 a, .int .u64 b] W fun e W' => e = .returned (pairV (two 22 w a b)) ∧ W' = W := by
  have CW := width_calls (w : Int)
  rw [isW_of hw] at CW
  have CW := hide CW
  have FA := rfits_calls hw a
  rw [decide_eq_true (mo_ge ha)] at FA
  have FA := hide FA
  have FB := rfits_calls hw b
  rw [decide_eq_true (mo_ge hb)] at FB
  have FB := hide FB
  have D := hide (fun W => oneOf_calls hw 22 a b ha hb (cutI w (min (wo w a) (wo w b))) W (.inr (.inr (.inl ⟨rfl, rfl⟩))))
  clear ha hb
  go_enter Tryd.func10, Tryd.ntmps10
  go_wp2_with (first | (with_reducible refine (CW.out _).mono ?_; rintro e w1 ⟨rfl, rfl⟩) | (with_reducible refine (FA.out _).mono ?_; rintro e w1 ⟨rfl, rfl⟩) | (with_reducible refine (FB.out _).mono ?_; rintro e w1 ⟨rfl, rfl⟩) | (with_reducible refine (D.out _).mono ?_; rintro e w1 ⟨rfl, rfl⟩))
  skip
  refine bodyPost_ret (v := .tuple #[.int .u64 (cutI w (min (wo w a) (wo w b))), .int .i64 0]) (by simp [results, Tryd.results10, go_sem]) rfl ?_
  exact ⟨rfl, rfl⟩

set_option maxRecDepth 100000 in
set_option maxHeartbeats 1000000 in
theorem rtwo_23 {w : Nat} (hw : IsW w) (a b : Int) (ha : Of w a) (hb : Of w b) (W : World) :
    Calls Tryd.prog 10 #[.int .u8 23, .int .i64 (w : Int), .int .u64 a, .int .u64 b] W fun e W' => e = .returned (pairV (two 23 w a b)) ∧ W' = W := by
  have CW := width_calls (w : Int)
  rw [isW_of hw] at CW
  have CW := hide CW
  have FA := rfits_calls hw a
  rw [decide_eq_true (mo_ge ha)] at FA
  have FA := hide FA
  have FB := rfits_calls hw b
  rw [decide_eq_true (mo_ge hb)] at FB
  have FB := hide FB
  have D := hide (fun W => oneOf_calls hw 23 a b ha hb (cutI w (max (wo w a) (wo w b))) W (.inr (.inr (.inr ⟨rfl, rfl⟩))))
  clear ha hb
  go_enter Tryd.func10, Tryd.ntmps10
  go_wp2_with (first | (with_reducible refine (CW.out _).mono ?_; rintro e w1 ⟨rfl, rfl⟩) | (with_reducible refine (FA.out _).mono ?_; rintro e w1 ⟨rfl, rfl⟩) | (with_reducible refine (FB.out _).mono ?_; rintro e w1 ⟨rfl, rfl⟩) | (with_reducible refine (D.out _).mono ?_; rintro e w1 ⟨rfl, rfl⟩))
  skip
  refine bodyPost_ret (v := .tuple #[.int .u64 (cutI w (max (wo w a) (wo w b))), .int .i64 0]) (by simp [results, Tryd.results10, go_sem]) rfl ?_
  exact ⟨rfl, rfl⟩

set_option maxRecDepth 100000 in
set_option maxHeartbeats 1000000 in
theorem rtwo_24 {w : Nat} (hw : IsW w) (a b : Int) (ha : Of w a) (hb : Of w b) (W : World) :
    Calls Tryd.prog 10 #[.int .u8 24, .int .i64 (w : Int), .int .u64 a, .int .u64 b] W fun e W' => e = .returned (pairV (two 24 w a b)) ∧ W' = W := by
  have CW := width_calls (w : Int)
  rw [isW_of hw] at CW
  have CW := hide CW
  have FA := rfits_calls hw a
  rw [decide_eq_true (mo_ge ha)] at FA
  have FA := hide FA
  have FB := rfits_calls hw b
  rw [decide_eq_true (mo_ge hb)] at FB
  have FB := hide FB
  have e1 : a.tdiv 2 = a / 2 := Int.tdiv_eq_ediv_of_nonneg ha.1
  have e2 : b.tdiv 2 = b / 2 := Int.tdiv_eq_ediv_of_nonneg hb.1
  have e3 : a.tmod 2 = a % 2 := Int.tmod_eq_emod_of_nonneg ha.1
  have e4 : b.tmod 2 = b % 2 := Int.tmod_eq_emod_of_nonneg hb.1
  have G := hide (mean_ref ha.1 hb.1 (ha.lt64 hw) (hb.lt64 hw))
  clear ha hb
  go_enter Tryd.func10, Tryd.ntmps10
  go_wp2_with (first | (with_reducible refine (CW.out _).mono ?_; rintro e w1 ⟨rfl, rfl⟩) | (with_reducible refine (FA.out _).mono ?_; rintro e w1 ⟨rfl, rfl⟩) | (with_reducible refine (FB.out _).mono ?_; rintro e w1 ⟨rfl, rfl⟩))
  skip
  refine bodyPost_ret (v := .tuple #[.int .u64 (IntKind.u64.wrap (IntKind.u64.wrap (IntKind.u64.wrap (a / 2) + IntKind.u64.wrap (b / 2)) + (a % 2 + b % 2 + 1) / 2)), .int .i64 0]) (by simp [results, Tryd.results10, go_sem]) rfl ?_
  exact ⟨by rw [G.out]; rfl, rfl⟩

set_option maxRecDepth 100000 in
set_option maxHeartbeats 1000000 in
theorem rtwo_25n {w : Nat} (hw : IsW w) (a b : Int) (ha : Of w a) (hb : Of w b) (c : ¬ w = 16) (W : World) :
    Calls Tryd.prog 10 #[.int .u8 25, .int .i64 (w : Int), .int .u64 a, .int .u64 b] W fun e W' => e = .returned (pairV (two 25 w a b)) ∧ W' = W := by
  have CW := width_calls (w : Int)
  rw [isW_of hw] at CW
  have CW := hide CW
  have FA := rfits_calls hw a
  rw [decide_eq_true (mo_ge ha)] at FA
  have FA := hide FA
  have FB := rfits_calls hw b
  rw [decide_eq_true (mo_ge hb)] at FB
  have FB := hide FB
  have T : two 25 w a b = (0, 2) := by simp [two, c]
  rw [T]
  clear T
  have c3 : ((w : Int) == 16) = false := by simp; omega
  clear ha hb
  go_enter Tryd.func10, Tryd.ntmps10
  go_wp2_with (first | (with_reducible refine (CW.out _).mono ?_; rintro e w1 ⟨rfl, rfl⟩) | (with_reducible refine (FA.out _).mono ?_; rintro e w1 ⟨rfl, rfl⟩) | (with_reducible refine (FB.out _).mono ?_; rintro e w1 ⟨rfl, rfl⟩))
  skip
  refine bodyPost_ret (v := .tuple #[.int .u64 0, .int .i64 2]) (by simp [results, Tryd.results10, go_sem]) rfl ?_
  exact ⟨rfl, rfl⟩

set_option maxRecDepth 100000 in
set_option maxHeartbeats 1000000 in
theorem rtwo_25y {w : Nat} (hw : IsW w) (a b : Int) (ha : Of w a) (hb : Of w b) (c : w = 16) (W : World) :
    Calls Tryd.prog 10 #[.int .u8 25, .int .i64 (w : Int), .int .u64 a, .int .u64 b] W fun e W' => e = .returned (pairV (two 25 w a b)) ∧ W' = W := by
  have CW := width_calls (w : Int)
  rw [isW_of hw] at CW
  have CW := hide CW
  have FA := rfits_calls hw a
  rw [decide_eq_true (mo_ge ha)] at FA
  have FA := hide FA
  have FB := rfits_calls hw b
  rw [decide_eq_true (mo_ge hb)] at FB
  have FB := hide FB
  have T : two 25 w a b = (q15I a b, 0) := by simp [two, c]
  rw [T]
  clear T
  subst c
  have D := hide (rq15_calls a b ha hb)
  simp only [show ((16 : Nat) : Int) = 16 from rfl] at CW FA FB ⊢
  clear ha hb
  go_enter Tryd.func10, Tryd.ntmps10
  go_wp2_with (first | (with_reducible refine (CW.out _).mono ?_; rintro e w1 ⟨rfl, rfl⟩) | (with_reducible refine (FA.out _).mono ?_; rintro e w1 ⟨rfl, rfl⟩) | (with_reducible refine (FB.out _).mono ?_; rintro e w1 ⟨rfl, rfl⟩) | (with_reducible refine (D.out _).mono ?_; rintro e w1 ⟨rfl, rfl⟩))
  skip
  refine bodyPost_ret (v := .tuple #[.int .u64 (q15I a b), .int .i64 0]) (by simp [results, Tryd.results10, go_sem]) rfl ?_
  exact ⟨rfl, rfl⟩

set_option maxRecDepth 100000 in
set_option maxHeartbeats 2000000 in
theorem rtwo_else {w : Nat} (hw : IsW w) (op : Int) (a b : Int) (ha : Of w a) (hb : Of w b) (ho : op = 0 ∨ 25 < op) (W : World) :
    Calls Tryd.prog 10 #[.int .u8 op, .int .i64 (w : Int), .int .u64 a, .int .u64 b] W fun e W' => e = .returned (pairV (two op.toNat w a b)) ∧ W' = W := by
  rw [two_none (by omega)]
  have CW := width_calls (w : Int)
  rw [isW_of hw] at CW
  have CW := hide CW
  have FA := rfits_calls hw a
  rw [decide_eq_true (mo_ge ha)] at FA
  have FA := hide FA
  have FB := rfits_calls hw b
  rw [decide_eq_true (mo_ge hb)] at FB
  have FB := hide FB
  have n1 : (op == 1) = false := by simp; omega
  have n2 : (op == 2) = false := by simp; omega
  have n3 : (op == 3) = false := by simp; omega
  have n4 : (op == 4) = false := by simp; omega
  have n5 : (op == 5) = false := by simp; omega
  have n6 : (op == 6) = false := by simp; omega
  have n7 : (op == 7) = false := by simp; omega
  have n8 : (op == 8) = false := by simp; omega
  have n9 : (op == 9) = false := by simp; omega
  have n10 : (op == 10) = false := by simp; omega
  have n11 : (op == 11) = false := by simp; omega
  have n12 : (op == 12) = false := by simp; omega
  have n13 : (op == 13) = false := by simp; omega
  have n14 : (op == 14) = false := by simp; omega
  have n15 : (op == 15) = false := by simp; omega
  have n16 : (op == 16) = false := by simp; omega
  have n17 : (op == 17) = false := by simp; omega
  have n18 : (op == 18) = false := by simp; omega
  have n19 : (op == 19) = false := by simp; omega
  have n20 : (op == 20) = false := by simp; omega
  have n21 : (op == 21) = false := by simp; omega
  have n22 : (op == 22) = false := by simp; omega
  have n23 : (op == 23) = false := by simp; omega
  have n24 : (op == 24) = false := by simp; omega
  have n25 : (op == 25) = false := by simp; omega
  clear ha hb ho
  go_enter Tryd.func10, Tryd.ntmps10
  go_wp2_with (first | (with_reducible refine (CW.out _).mono ?_; rintro e w1 ⟨rfl, rfl⟩) | (with_reducible refine (FA.out _).mono ?_; rintro e w1 ⟨rfl, rfl⟩) | (with_reducible refine (FB.out _).mono ?_; rintro e w1 ⟨rfl, rfl⟩))
  refine bodyPost_ret (v := .tuple #[.int .u64 0, .int .i64 2]) (by simp [results, Tryd.results10, go_sem]) rfl ?_
  exact ⟨rfl, rfl⟩

set_option maxRecDepth 100000 in
set_option maxHeartbeats 1000000 in
theorem rtwo_bad (op w a b : Int) (h0 : 0 ≤ a) (h1 : 0 ≤ b) (h : ok2 w a b = false) (W : World) :
    Calls Tryd.prog 10 #[.int .u8 op, .int .i64 w, .int .u64 a, .int .u64 b] W fun e W' => e = .returned (pairV (0, 2)) ∧ W' = W := by
  have CW := width_calls w
  cases hw : isW w with
  | false =>
    rw [hw] at CW
    have CW := hide CW
    clear h
    go_enter Tryd.func10, Tryd.ntmps10
    go_wp2_with (first | (with_reducible refine (CW.out _).mono ?_; rintro e w1 ⟨rfl, rfl⟩))
    refine bodyPost_ret (v := .tuple #[.int .u64 0, .int .i64 2]) (by simp [results, Tryd.results10, go_sem]) rfl ?_
    exact ⟨rfl, rfl⟩
  | true =>
    rw [hw] at CW
    have CW := hide CW
    obtain ⟨n, rfl, hn⟩ := (isW_iff w).1 hw
    unfold ok2 at h
    rw [hw, Bool.true_and, Int.toNat_natCast] at h
    have FA := rfits_calls hn a
    have FB := rfits_calls hn b
    cases ca : decide (a ≤ mo n) with
    | false =>
      rw [ca] at FA
      have FA := hide FA
      clear h FB ca h0 h1
      go_enter Tryd.func10, Tryd.ntmps10
      go_wp2_with (first | (with_reducible refine (CW.out _).mono ?_; rintro e w1 ⟨rfl, rfl⟩) | (with_reducible refine (FA.out _).mono ?_; rintro e w1 ⟨rfl, rfl⟩))
      refine bodyPost_ret (v := .tuple #[.int .u64 0, .int .i64 2]) (by simp [results, Tryd.results10, go_sem]) rfl ?_
      exact ⟨rfl, rfl⟩
    | true =>
      rw [ca, Bool.true_and] at h
      rw [ca] at FA
      rw [h] at FB
      have FA := hide FA
      have FB := hide FB
      clear h ca h0 h1
      go_enter Tryd.func10, Tryd.ntmps10
      go_wp2_with (first | (with_reducible refine (CW.out _).mono ?_; rintro e w1 ⟨rfl, rfl⟩) | (with_reducible refine (FA.out _).mono ?_; rintro e w1 ⟨rfl, rfl⟩) | (with_reducible refine (FB.out _).mono ?_; rintro e w1 ⟨rfl, rfl⟩))
      refine bodyPost_ret (v := .tuple #[.int .u64 0, .int .i64 2]) (by simp [results, Tryd.results10, go_sem]) rfl ?_
      exact ⟨rfl, rfl⟩

/-- The document's Two: every operator, at numbers of a width. -/
theorem RTwo_calls {w : Nat} (hw : IsW w) (op a b : Int) (ho : 0 ≤ op) (ha : Of w a) (hb : Of w b) (W : World) :
    Calls Tryd.prog 10 #[.int .u8 op, .int .i64 (w : Int), .int .u64 a, .int .u64 b] W fun e W' => e = .returned (pairV (two op.toNat w a b)) ∧ W' = W := by
  by_cases hk : op = 0 ∨ 25 < op
  · exact rtwo_else hw op a b ha hb hk W
  · obtain ⟨n, rfl⟩ := Int.eq_ofNat_of_zero_le ho
    have h1 : 1 ≤ n := by omega
    have h2 : n ≤ 25 := by omega
    clear hk ho
    rcases (show n = 1 ∨ n = 2 ∨ n = 3 ∨ n = 4 ∨ n = 5 ∨ n = 6 ∨ n = 7 ∨ n = 8 ∨ n = 9 ∨ n = 10 ∨ n = 11 ∨ n = 12 ∨ n = 13 ∨ n = 14 ∨ n = 15 ∨ n = 16 ∨ n = 17 ∨ n = 18 ∨ n = 19 ∨ n = 20 ∨ n = 21 ∨ n = 22 ∨ n = 23 ∨ n = 24 ∨ n = 25 by omega) with rfl | rfl | rfl | rfl | rfl | rfl | rfl | rfl | rfl | rfl | rfl | rfl | rfl | rfl | rfl | rfl | rfl | rfl | rfl | rfl | rfl | rfl | rfl | rfl | rfl
    · exact rtwo_1 hw a b ha hb W
    · exact rtwo_2 hw a b ha hb W
    · exact rtwo_3 hw a b ha hb W
    · by_cases c : b = 0
      · exact rtwo_4z hw a b ha hb c W
      · exact rtwo_4n hw a b ha hb c W
    · by_cases c : b = 0
      · exact rtwo_5z hw a b ha hb c W
      · exact rtwo_5n hw a b ha hb c W
    · by_cases c : b = 0
      · exact rtwo_6z hw a b ha hb c W
      · cases c2 : traps w a b with
        | true => exact rtwo_6t hw a b ha hb c c2 W
        | false => exact rtwo_6n hw a b ha hb c c2 W
    · by_cases c : b = 0
      · exact rtwo_7z hw a b ha hb c W
      · exact rtwo_7n hw a b ha hb c W
    · exact rtwo_8 hw a b ha hb W
    · exact rtwo_9 hw a b ha hb W
    · exact rtwo_10 hw a b ha hb W
    · exact rtwo_11 hw a b ha hb W
    · exact rtwo_12 hw a b ha hb W
    · exact rtwo_13 hw a b ha hb W
    · exact rtwo_14 hw a b ha hb W
    · exact rtwo_15 hw a b ha hb W
    · exact rtwo_16 hw a b ha hb W
    · exact rtwo_17 hw a b ha hb W
    · exact rtwo_18 hw a b ha hb W
    · exact rtwo_19 hw a b ha hb W
    · exact rtwo_20 hw a b ha hb W
    · exact rtwo_21 hw a b ha hb W
    · exact rtwo_22 hw a b ha hb W
    · exact rtwo_23 hw a b ha hb W
    · exact rtwo_24 hw a b ha hb W
    · by_cases c : w = 16
      · exact rtwo_25y hw a b ha hb c W
      · exact rtwo_25n hw a b ha hb c W
end Go.Proofs.YtlpjkmobmpcfiaaDoor
