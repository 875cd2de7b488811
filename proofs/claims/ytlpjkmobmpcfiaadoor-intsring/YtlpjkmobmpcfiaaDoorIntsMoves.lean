/-
  ints.divide, ints.move, ints.addHeld, ints.subHeld, ints.q15.
-/
import Derived.Test.YtlpjkmobmpcfiaaDoorIntsSpec
set_option linter.unusedVariables false
set_option linter.unusedSimpArgs false
namespace Go.Proofs.YtlpjkmobmpcfiaaDoor
open Go.RowKit Ints

theorem cutw_calls {w : Nat} (hw : IsW w) (n : Int) (W : World) :
    Calls Tryd.prog 24 #[.int .i64 (w : Int), .int .u64 (IntKind.u64.wrap n)] W fun e W' => e = .returned (.int .u64 (cutI w n)) ∧ W' = W := by
  rw [← cut_wrap hw n]
  exact cut_calls hw _ (by rw [IntKind.wrap_u64]; omega) (by rw [IntKind.wrap_u64]; omega) W

theorem cut_w64 {w : Nat} (hw : IsW w) (n : Int) : cutI w (wrap64 n) = cutI w n := by
  unfold wrap64
  rcases hw with rfl | rfl | rfl | rfl <;> simp only [cutI] <;> omega

theorem wo_zero {w : Nat} (hw : IsW w) {b : Int} (hb : Of w b) : wo w b = 0 ↔ b = 0 := by
  obtain ⟨h0, h1⟩ := hb
  rcases hw with rfl | rfl | rfl | rfl <;> simp only [wo, Nat.reduceSub, Int.reducePow] at h1 ⊢ <;> omega

theorem wo_range {w : Nat} (hw : IsW w) {a : Int} (ha : Of w a) : lo w ≤ wo w a ∧ wo w a ≤ hi w := by
  obtain ⟨h0, h1⟩ := ha
  rcases hw with rfl | rfl | rfl | rfl <;> simp only [wo, lo, hi, Nat.reduceSub, Int.reducePow] at h1 ⊢ <;> omega

theorem lohi {w : Nat} (hw : IsW w) : -9223372036854775808 ≤ lo w ∧ lo w ≤ -128 ∧ 127 ≤ hi w ∧ hi w ≤ 9223372036854775807 ∧ hi w = -lo w - 1 := by
  rcases hw with rfl | rfl | rfl | rfl <;> decide

set_option maxRecDepth 100000 in
set_option maxHeartbeats 1000000 in
theorem divide_zero {w : Nat} (op a b : Int) (hb : b = 0) (W : World) :
    Calls Tryd.prog 25 #[.int .u8 op, .int .i64 (w : Int), .int .u64 a, .int .u64 b] W fun e W' => e = .returned (pairV (0, 6)) ∧ W' = W := by
  subst hb
  go_enter Tryd.func25, Tryd.ntmps25
  go_wp2
  refine bodyPost_ret (v := .tuple #[.int .u64 0, .int .i64 6]) (by simp [results, Tryd.results25, go_sem]) rfl ?_
  exact ⟨rfl, rfl⟩

set_option maxRecDepth 100000 in
set_option maxHeartbeats 1000000 in
theorem divide_4 {w : Nat} (hw : IsW w) (a b : Int) (ha : Of w a) (hb : Of w b) (hb0 : ¬ b = 0) (W : World) :
    Calls Tryd.prog 25 #[.int .u8 4, .int .i64 (w : Int), .int .u64 a, .int .u64 b] W fun e W' => e = .returned (pairV (a / b, 0)) ∧ W' = W := by
  have C := hide (@worth_calls w hw)
  have HA := hide ha
  have HB := hide hb
  have E : IntKind.u64.wrap (a.tdiv b) = a / b := by
    rw [Int.tdiv_eq_ediv_of_nonneg ha.1, IntKind.wrap_u64]
    have h1 := Int.ediv_nonneg ha.1 hb.1
    have h2 := Int.ediv_le_self b ha.1
    have h3 := ha.lt64 hw
    omega
  clear ha hb
  go_enter Tryd.func25, Tryd.ntmps25
  go_wp2_with (first | (with_reducible refine (C.out a HA.out _).mono ?_; rintro e w1 ⟨rfl, rfl⟩) | (with_reducible refine (C.out b HB.out _).mono ?_; rintro e w1 ⟨rfl, rfl⟩))
  refine bodyPost_ret (v := .tuple #[.int .u64 (a / b), .int .i64 0]) (by simp [results, Tryd.results25, go_sem]) rfl ?_
  exact ⟨rfl, rfl⟩

set_option maxRecDepth 100000 in
set_option maxHeartbeats 1000000 in
theorem divide_5 {w : Nat} (hw : IsW w) (a b : Int) (ha : Of w a) (hb : Of w b) (hb0 : ¬ b = 0) (W : World) :
    Calls Tryd.prog 25 #[.int .u8 5, .int .i64 (w : Int), .int .u64 a, .int .u64 b] W fun e W' => e = .returned (pairV (a % b, 0)) ∧ W' = W := by
  have C := hide (@worth_calls w hw)
  have HA := hide ha
  have HB := hide hb
  have E : a.tmod b = a % b := Int.tmod_eq_emod_of_nonneg ha.1
  clear ha hb
  go_enter Tryd.func25, Tryd.ntmps25
  go_wp2_with (first | (with_reducible refine (C.out a HA.out _).mono ?_; rintro e w1 ⟨rfl, rfl⟩) | (with_reducible refine (C.out b HB.out _).mono ?_; rintro e w1 ⟨rfl, rfl⟩))
  refine bodyPost_ret (v := .tuple #[.int .u64 (a % b), .int .i64 0]) (by simp [results, Tryd.results25, go_sem]) rfl ?_
  exact ⟨rfl, rfl⟩

set_option maxRecDepth 100000 in
set_option maxHeartbeats 1000000 in
theorem divide_7 {w : Nat} (hw : IsW w) (a b : Int) (ha : Of w a) (hb : Of w b) (hb0 : ¬ b = 0) (W : World) :
    Calls Tryd.prog 25 #[.int .u8 7, .int .i64 (w : Int), .int .u64 a, .int .u64 b] W fun e W' => e = .returned (pairV (remS w a b, 0)) ∧ W' = W := by
  have C := hide (@worth_calls w hw)
  have CC := hide (@cutw_calls w hw)
  have HA := hide ha
  have HB := hide hb
  have hy : ¬ wo w b = 0 := fun h => hb0 ((wo_zero hw hb).1 h)
  have K := hide (@cut_w64 w hw)
  clear ha hb
  go_enter Tryd.func25, Tryd.ntmps25
  go_wp2_with (first | (with_reducible refine (C.out a HA.out _).mono ?_; rintro e w1 ⟨rfl, rfl⟩) | (with_reducible refine (C.out b HB.out _).mono ?_; rintro e w1 ⟨rfl, rfl⟩) | (with_reducible refine (CC.out _ _).mono ?_; rintro e w1 ⟨rfl, rfl⟩))
  refine bodyPost_ret (v := .tuple #[.int .u64 (cutI w ((wo w a).tmod (wo w b))), .int .i64 0]) (by simp [results, Tryd.results25, go_sem]) rfl ?_
  exact ⟨rfl, rfl⟩

set_option maxRecDepth 100000 in
set_option maxHeartbeats 1000000 in
theorem divide_6 {w : Nat} (hw : IsW w) (a b : Int) (ha : Of w a) (hb : Of w b) (hb0 : ¬ b = 0) (W : World) :
    Calls Tryd.prog 25 #[.int .u8 6, .int .i64 (w : Int), .int .u64 a, .int .u64 b] W fun e W' => e = .returned (pairV (if traps w a b then (0, 6) else (divS w a b, 0))) ∧ W' = W := by
  have C := hide (@worth_calls w hw)
  have CC := hide (@cutw_calls w hw)
  have CL := hide (@least_calls w hw)
  have HA := hide ha
  have HB := hide hb
  have hy : ¬ wo w b = 0 := fun h => hb0 ((wo_zero hw hb).1 h)
  have K := hide (@cut_w64 w hw)
  clear ha hb
  by_cases cx : wo w a = lo w
  · by_cases cy : wo w b = -1
    · have T : traps w a b = true := by simp [traps, cx, cy]
      simp only [T, Bool.false_eq_true, ↓reduceIte]
      clear T
      go_enter Tryd.func25, Tryd.ntmps25
      go_wp2_with (first | (with_reducible refine (C.out a HA.out _).mono ?_; rintro e w1 ⟨rfl, rfl⟩) | (with_reducible refine (C.out b HB.out _).mono ?_; rintro e w1 ⟨rfl, rfl⟩) | (with_reducible refine (CL.out _).mono ?_; rintro e w1 ⟨rfl, rfl⟩))
      refine bodyPost_ret (v := .tuple #[.int .u64 0, .int .i64 6]) (by simp [results, Tryd.results25, go_sem]) rfl ?_
      exact ⟨rfl, rfl⟩
    · have T : traps w a b = false := by simp [traps, cy]
      simp only [T, Bool.false_eq_true, ↓reduceIte]
      clear T
      have R := hide (show cutI w (wrap64 ((lo w).tdiv (wo w b))) = divS w a b by rw [cut_w64 hw, ← cx]; rfl)
      go_enter Tryd.func25, Tryd.ntmps25
      go_wp2_with (first | (with_reducible refine (C.out a HA.out _).mono ?_; rintro e w1 ⟨rfl, rfl⟩) | (with_reducible refine (C.out b HB.out _).mono ?_; rintro e w1 ⟨rfl, rfl⟩) | (with_reducible refine (CL.out _).mono ?_; rintro e w1 ⟨rfl, rfl⟩) | (with_reducible refine (CC.out _ _).mono ?_; rintro e w1 ⟨rfl, rfl⟩))
      refine bodyPost_ret (v := .tuple #[.int .u64 (cutI w (wrap64 ((lo w).tdiv (wo w b)))), .int .i64 0]) (by simp [results, Tryd.results25, go_sem]) rfl ?_
      exact ⟨by rw [← R.out]; rfl, rfl⟩
  · have T : traps w a b = false := by simp [traps, cx]
    simp only [T, Bool.false_eq_true, ↓reduceIte]
    clear T
    have R := hide (show cutI w (wrap64 ((wo w a).tdiv (wo w b))) = divS w a b by rw [cut_w64 hw]; rfl)
    go_enter Tryd.func25, Tryd.ntmps25
    go_wp2_with (first | (with_reducible refine (C.out a HA.out _).mono ?_; rintro e w1 ⟨rfl, rfl⟩) | (with_reducible refine (C.out b HB.out _).mono ?_; rintro e w1 ⟨rfl, rfl⟩) | (with_reducible refine (CL.out _).mono ?_; rintro e w1 ⟨rfl, rfl⟩) | (with_reducible refine (CC.out _ _).mono ?_; rintro e w1 ⟨rfl, rfl⟩))
    refine bodyPost_ret (v := .tuple #[.int .u64 (cutI w (wrap64 ((wo w a).tdiv (wo w b)))), .int .i64 0]) (by simp [results, Tryd.results25, go_sem]) rfl ?_
    exact ⟨by rw [← R.out]; rfl, rfl⟩

/-! Moves -/

/-- What is left of b, divided by w, as the machine reckons it. -/
theorem sh_eq {w : Nat} (hw : IsW w) {b : Int} (h0 : 0 ≤ b) : b.tmod (IntKind.u64.wrap (w : Int)) = (sh w b : Int) := by
  have e : IntKind.u64.wrap (w : Int) = (w : Int) := by
    have := hw.le
    rw [IntKind.wrap_u64]; omega
  obtain ⟨n, rfl⟩ := Int.eq_ofNat_of_zero_le h0
  rw [e, Int.tmod_eq_emod_of_nonneg h0]
  rfl

theorem sh_lt {w : Nat} (hw : IsW w) (b : Int) : sh w b < w := Nat.mod_lt _ hw.pos

/-- A turn by its two parts: moved up by n, and what fell off. -/
theorem turn_bits {w : Nat} (hw : IsW w) (a : Nat) (n : Nat) (hn : n ≤ w) (ha : a < 2 ^ w) :
    ((a * 2 ^ n % 18446744073709551616) ||| (a / 2 ^ (w - n))) % 2 ^ w = rotl w a n := by
  have hl := shr_lt a w n ha hn
  have e : a * 2 ^ n % 18446744073709551616 = 2 ^ n * (a % 2 ^ (64 - n)) := by
    have := shl_mod a 64 n (by have := hw.le; omega)
    rw [show (2 : Nat) ^ 64 = 18446744073709551616 from rfl] at this
    rw [this, Nat.mul_comm]
  rw [e, ← Nat.two_pow_add_eq_or_of_lt hl, ← e]
  have d : (2 : Nat) ^ w ∣ 18446744073709551616 := by
    rw [show (18446744073709551616 : Nat) = 2 ^ 64 from rfl]
    exact Nat.pow_dvd_pow 2 hw.le
  rw [Nat.add_mod, Nat.mod_mod_of_dvd _ d, ← Nat.add_mod, Nat.add_mod, shl_mod _ _ _ hn]
  rw [rotl_eq _ _ _ hn]
  have hj := join_lt _ _ _ _ hl hn (Nat.mod_lt a (Nat.two_pow_pos (w - n)))
  have h1 : a / 2 ^ (w - n) < 2 ^ w := by omega
  rw [Nat.mod_eq_of_lt h1, Nat.add_comm, Nat.mod_eq_of_lt hj]

theorem turn_int {w : Nat} (hw : IsW w) (a : Int) (ha : Of w a) (n m : Nat) (hn : n + m = w) :
    cutI w (bits .or .u64 (IntKind.u64.wrap (a * 2 ^ n)) (a / 2 ^ m)) = (rotl w a.toNat n : Int) ∧ cutI w (bits .or .u64 (a / 2 ^ m) (IntKind.u64.wrap (a * 2 ^ n))) = (rotl w a.toNat n : Int) ∧
    0 ≤ bits .or .u64 (IntKind.u64.wrap (a * 2 ^ n)) (a / 2 ^ m) ∧ bits .or .u64 (IntKind.u64.wrap (a * 2 ^ n)) (a / 2 ^ m) < 18446744073709551616 ∧
    0 ≤ bits .or .u64 (a / 2 ^ m) (IntKind.u64.wrap (a * 2 ^ n)) ∧ bits .or .u64 (a / 2 ^ m) (IntKind.u64.wrap (a * 2 ^ n)) < 18446744073709551616 := by
  have h64 := ha.lt64 hw
  obtain ⟨h0, h1⟩ := ha
  obtain ⟨k, rfl⟩ := Int.eq_ofNat_of_zero_le h0
  have hk : k < 2 ^ w := by exact_mod_cast h1
  have e1 : IntKind.u64.wrap ((k : Int) * 2 ^ n) = ((k * 2 ^ n % 18446744073709551616 : Nat) : Int) := by
    rw [IntKind.wrap_u64]; simp
  have e2 : (k : Int) / 2 ^ m = ((k / 2 ^ m : Nat) : Int) := by simp
  have l1 : k * 2 ^ n % 18446744073709551616 < 18446744073709551616 := Nat.mod_lt _ (by decide)
  have l2 : k / 2 ^ m < 18446744073709551616 := Nat.lt_of_le_of_lt (Nat.div_le_self _ _) (by omega)
  have hm : m = w - n := by omega
  have l3 : (k * 2 ^ n % 18446744073709551616) ||| (k / 2 ^ m) < 2 ^ 64 := Nat.or_lt_two_pow l1 l2
  have t := turn_bits hw k n (by omega) hk
  rw [← hm] at t
  rw [e1, e2, bits_or_u64_nat _ _ l1 l2, bits_or_u64_nat _ _ l2 l1, Nat.or_comm (k / 2 ^ m)]
  unfold cutI
  have e3 : ∀ x : Nat, (x : Int) % 2 ^ w = ((x % 2 ^ w : Nat) : Int) := fun x => by simp
  rw [e3, t]
  refine ⟨rfl, rfl, ?_, ?_, ?_, ?_⟩ <;> omega

set_option maxRecDepth 100000 in
set_option maxHeartbeats 1000000 in
theorem move_any {w : Nat} (hw : IsW w) (op a b : Int) (ha : Of w a) (hb : Of w b) (m : Int) (W : World)
    (hm : (op = 11 ∧ m = IntKind.u64.wrap (a * 2 ^ sh w b)) ∨ (op = 12 ∧ m = a / 2 ^ sh w b) ∨ (op = 13 ∧ m = IntKind.u64.wrap (wo w a / 2 ^ sh w b)) ∨ (op = 14 ∧ m = bits .or .u64 (IntKind.u64.wrap (a * 2 ^ sh w b)) (a / 2 ^ (w - sh w b))) ∨ (op = 15 ∧ m = bits .or .u64 (a / 2 ^ sh w b) (IntKind.u64.wrap (a * 2 ^ (w - sh w b))))) :
    Calls Tryd.prog 26 #[.int .u8 op, .int .i64 (w : Int), .int .u64 a, .int .u64 b] W fun e W' => e = .returned (.int .u64 m) ∧ W' = W := by
  have C := hide (worth_calls hw a ha)
  have HB := hide hb
  have E := sh_eq hw hb.1
  have hlt := sh_lt hw b
  have hle := hw.le
  have hpos := hw.pos
  have E0 : ¬ IntKind.u64.wrap (w : Int) = 0 := by rw [IntKind.wrap_u64]; omega
  have E1 : IntKind.u64.wrap (w : Int) = (w : Int) := by rw [IntKind.wrap_u64]; omega
  have E2 : IntKind.u64.wrap ((w : Int) - (sh w b : Int)) = ((w - sh w b : Nat) : Int) := by rw [IntKind.wrap_u64]; omega
  generalize sh w b = n at *
  generalize hr : w - n = r at *
  have hn1 : (n : Int) ≤ 64 := by omega
  have hr1 : (r : Int) ≤ 64 := by omega
  rw [E1] at E E0
  clear ha hb hle hpos hlt
  clear hr
  rcases hm with ⟨rfl, rfl⟩ | ⟨rfl, rfl⟩ | ⟨rfl, rfl⟩ | ⟨rfl, rfl⟩ | ⟨rfl, rfl⟩
  all_goals
    go_enter Tryd.func26, Tryd.ntmps26
    go_wp2_with (with_reducible refine (C.out _).mono ?_; rintro e w1 ⟨rfl, rfl⟩)
    go_ret
    exact ⟨rfl, rfl⟩

/-! Sums and differences that are held -/

set_option maxRecDepth 100000 in
set_option maxHeartbeats 1000000 in
theorem addHeld_calls {w : Nat} (hw : IsW w) (x y : Int) (hx : lo w ≤ x ∧ x ≤ hi w) (hy : lo w ≤ y ∧ y ≤ hi w) (W : World) :
    Calls Tryd.prog 28 #[.int .i64 (w : Int), .int .i64 x, .int .i64 y] W fun e W' => e = .returned (.int .i64 (min (max (x + y) (lo w)) (hi w))) ∧ W' = W := by
  have CL := hide (@least_calls w hw)
  have CG := hide (@greatest_calls w hw)
  have HX := hide hx
  have HY := hide hy
  have HL := hide (lohi hw)
  clear hx hy
  by_cases c : x < 0
  · go_enter Tryd.func28, Tryd.ntmps28
    go_wp2_with (first | (with_reducible refine (CL.out _).mono ?_; rintro e w1 ⟨rfl, rfl⟩)| (with_reducible refine (CG.out _).mono ?_; rintro e w1 ⟨rfl, rfl⟩))
    go_ret
    refine ⟨congrArg (fun z => Ending.returned (.int .i64 z)) ?_, rfl⟩
    have h1 := HX.out; have h2 := HY.out; have h3 := HL.out
    unfold wrap64
    omega
  · go_enter Tryd.func28, Tryd.ntmps28
    go_wp2_with (first | (with_reducible refine (CL.out _).mono ?_; rintro e w1 ⟨rfl, rfl⟩)| (with_reducible refine (CG.out _).mono ?_; rintro e w1 ⟨rfl, rfl⟩))
    go_ret
    refine ⟨congrArg (fun z => Ending.returned (.int .i64 z)) ?_, rfl⟩
    have h1 := HX.out; have h2 := HY.out; have h3 := HL.out
    unfold wrap64
    omega

set_option maxRecDepth 100000 in
set_option maxHeartbeats 1000000 in
theorem subHeld_calls {w : Nat} (hw : IsW w) (x y : Int) (hx : lo w ≤ x ∧ x ≤ hi w) (hy : lo w ≤ y ∧ y ≤ hi w) (W : World) :
    Calls Tryd.prog 30 #[.int .i64 (w : Int), .int .i64 x, .int .i64 y] W fun e W' => e = .returned (.int .i64 (min (max (x - y) (lo w)) (hi w))) ∧ W' = W := by
  have CL := hide (@least_calls w hw)
  have CG := hide (@greatest_calls w hw)
  have HX := hide hx
  have HY := hide hy
  have HL := hide (lohi hw)
  clear hx hy
  by_cases c : x < 0
  · go_enter Tryd.func30, Tryd.ntmps30
    go_wp2_with (first | (with_reducible refine (CL.out _).mono ?_; rintro e w1 ⟨rfl, rfl⟩)| (with_reducible refine (CG.out _).mono ?_; rintro e w1 ⟨rfl, rfl⟩))
    go_ret
    refine ⟨congrArg (fun z => Ending.returned (.int .i64 z)) ?_, rfl⟩
    have h1 := HX.out; have h2 := HY.out; have h3 := HL.out
    unfold wrap64
    omega
  · go_enter Tryd.func30, Tryd.ntmps30
    go_wp2_with (first | (with_reducible refine (CL.out _).mono ?_; rintro e w1 ⟨rfl, rfl⟩)| (with_reducible refine (CG.out _).mono ?_; rintro e w1 ⟨rfl, rfl⟩))
    go_ret
    refine ⟨congrArg (fun z => Ending.returned (.int .i64 z)) ?_, rfl⟩
    have h1 := HX.out; have h2 := HY.out; have h3 := HL.out
    unfold wrap64
    omega
end Go.Proofs.YtlpjkmobmpcfiaaDoor
