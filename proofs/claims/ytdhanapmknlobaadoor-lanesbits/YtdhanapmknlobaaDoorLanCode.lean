/-
  The small functions of lanes: most, lane, patch, with, fit, isWidth, isLane.
-/
import Derived.Test.YtdhanapmknlobaaDoorLanInts
import Derived.Test.YtdhanapmknlobaaDoorLanMath
import Derived.Laws.BitsAllLaws
import Derived.Deep.QuietTactic
import Derived.BigQuiet
set_option linter.unusedVariables false
set_option linter.unusedSimpArgs false
namespace Go.Proofs.YtdhanapmknlobaaDoor
open Go.RowKit Lan

theorem below_drewNq {B : Nat} {a w : World} (h : Below B a w) (q : Nat) : Below B a (w.drewN q) := h.trans ⟨rfl, rfl, rfl, Nat.le_refl _, fun _ _ => rfl⟩

/-- A vector, as it is held. -/
def vecV (v : Nat × Nat) : Value := .agg #[.int .u64 (v.1 : Int), .int .u64 (v.2 : Int)]

set_option maxHeartbeats 400000 in
theorem lmost_calls {w : Nat} (hw : IsW w) (W : World) :
    Calls Tryd.prog 44 #[.int .i64 (w : Int)] W fun e W' => e = .returned (.int .u64 (mo w)) ∧ W' = W := by
  rcases hw with rfl | rfl | rfl | rfl <;>
  · go_enter Tryd.func44, Tryd.ntmps44
    go_wp2
    go_ret
    exact ⟨rfl, rfl⟩

theorem mo_nat (w : Nat) : mo w = ((2 ^ w - 1 : Nat) : Int) := by
  unfold mo
  have := Nat.two_pow_pos w
  rw [Int.natCast_sub (by omega)]; simp

theorem and_mo {w : Nat} (hw : IsW w) (n : Nat) (h1 : n < 18446744073709551616) : bits .and .u64 (n : Int) (mo w) = ((n % 2 ^ w : Nat) : Int) := by
  have hp : 2 ^ w ≤ 2 ^ 64 := Nat.pow_le_pow_right (by decide) hw.le
  have hq := Nat.two_pow_pos w
  rw [mo_nat, bits_and_u64_nat n _ h1 (by omega), Nat.and_two_pow_sub_one_eq_mod]

theorem shr_and {w a x : Nat} (hw : IsW w) (hx : x < 2 ^ 64) : bits .and .u64 ((x : Int) / 2 ^ a) (mo w) = ((x / 2 ^ a % 2 ^ w : Nat) : Int) := by
  have e : (x : Int) / 2 ^ a = ((x / 2 ^ a : Nat) : Int) := by simp
  rw [e, and_mo hw]
  exact Nat.lt_of_le_of_lt (Nat.div_le_self _ _) hx

/-- One word as 'patch' makes it. -/
theorem patch_bits {x w a n : Nat} (hw : IsW w) (hx : x < 2 ^ 64) (hn : n < 2 ^ w) (h : a + w ≤ 64) :
    bits .or .u64 (bits .andNot .u64 (x : Int) (IntKind.u64.wrap (mo w * 2 ^ a))) (IntKind.u64.wrap ((n : Int) * 2 ^ a)) = (patchN x w a n : Int) := by
  have hp : 2 ^ (a + w) ≤ 2 ^ 64 := Nat.pow_le_pow_right (by decide) h
  have hq := Nat.two_pow_pos w
  have ha := Nat.two_pow_pos a
  rw [Nat.pow_add] at hp
  have h1 : (2 ^ w - 1) * 2 ^ a < 2 ^ 64 := by
    have : (2 ^ w - 1) * 2 ^ a < 2 ^ w * 2 ^ a := Nat.mul_lt_mul_of_pos_right (by omega) ha
    rw [Nat.mul_comm (2 ^ w)] at this
    exact Nat.lt_of_lt_of_le this hp
  have h2 : n * 2 ^ a < 2 ^ 64 := by
    have : n * 2 ^ a < 2 ^ w * 2 ^ a := Nat.mul_lt_mul_of_pos_right hn ha
    rw [Nat.mul_comm (2 ^ w)] at this
    exact Nat.lt_of_lt_of_le this hp
  have e1 : IntKind.u64.wrap (mo w * 2 ^ a) = (((2 ^ w - 1) * 2 ^ a : Nat) : Int) := by
    rw [mo_nat, IntKind.wrap_u64]
    have : ((2 ^ w - 1 : Nat) : Int) * 2 ^ a = (((2 ^ w - 1) * 2 ^ a : Nat) : Int) := by push_cast; rfl
    rw [this]
    exact Int.emod_eq_of_lt (Int.natCast_nonneg _) (by generalize (2 ^ w - 1) * 2 ^ a = z at h1 ⊢; omega)
  have e2 : IntKind.u64.wrap ((n : Int) * 2 ^ a) = ((n * 2 ^ a : Nat) : Int) := by
    rw [IntKind.wrap_u64]
    have : (n : Int) * 2 ^ a = ((n * 2 ^ a : Nat) : Int) := by push_cast; rfl
    rw [this]
    exact Int.emod_eq_of_lt (Int.natCast_nonneg _) (by generalize n * 2 ^ a = z at h2 ⊢; omega)
  rw [e1, e2, u64_andNot_nat x _ hx h1, bits_or_u64_nat _ _ (Nat.lt_of_le_of_lt Nat.and_le_left hx) h2]
  congr 1
  apply word_ext
  · exact Nat.or_lt_two_pow (Nat.lt_of_le_of_lt Nat.and_le_left hx) h2
  · exact patch_lt hx hn h
  · intro k hk
    rw [tb_patch hn, Nat.testBit_or, Nat.testBit_and, Nat.testBit_mul_two_pow]
    have e3 : (18446744073709551615 - (2 ^ w - 1) * 2 ^ a).testBit k = !((2 ^ w - 1) * 2 ^ a).testBit k := by
      have := Nat.testBit_two_pow_sub_succ h1 k
      rw [show (18446744073709551615 : Nat) - (2 ^ w - 1) * 2 ^ a = 2 ^ 64 - ((2 ^ w - 1) * 2 ^ a + 1) by omega, this]
      simp [hk]
    rw [e3, Nat.testBit_mul_two_pow, Nat.testBit_two_pow_sub_one]
    by_cases c : a ≤ k
    · by_cases d : k < a + w
      · simp [c, d, show k - a < w by omega]
      · rw [tb_high hn (show w ≤ k - a by omega)]; simp [c, d, show ¬ k - a < w by omega]
    · simp [c]

set_option maxHeartbeats 400000 in
theorem patch_calls {x w a n : Nat} (hw : IsW w) (hx : x < 2 ^ 64) (hn : n < 2 ^ w) (h : a + w ≤ 64) (W : World) :
    Calls Tryd.prog 46 #[.int .u64 (x : Int), .int .i64 (w : Int), .int .i64 (a : Int), .int .u64 (n : Int)] W fun e W' => e = .returned (.int .u64 (patchN x w a n : Int)) ∧ ∃ m, W' = W.drewN m := by
  have C := hide (lmost_calls hw)
  have E := patch_bits hw hx hn h
  have c2 : ((a : Int)) < 64 := by have := hw.pos; omega
  clear hx hn h
  go_enter Tryd.func46, Tryd.ntmps46
  go_wp2_with fail
  go_quiet (with_reducible refine Calls.quiet_of_same (C.out _))
  go_wp2
  go_ret
  exact ⟨rfl, _, rfl⟩


set_option maxHeartbeats 400000 in
theorem lane_calls {w i : Nat} (hw : IsW w) (hi : i < 128 / w) (v : Nat × Nat) (hv : Vok v) (W : World) :
    Calls Tryd.prog 35 #[vecV v, .int .i64 (w : Int), .int .i64 (i : Int)] W fun e W' => e = .returned (.int .u64 (laneN v w i : Int)) ∧ Below W.heap.size W W' := by
  have C := hide (lmost_calls hw)
  have h128 := (in_word hw hi).1
  have M : wrap64 ((i : Int) * (w : Int)) = ((i * w : Nat) : Int) := by
    have e : (i : Int) * (w : Int) = ((i * w : Nat) : Int) := by simp
    rw [e]
    unfold wrap64
    omega
  have E1 := @shr_and w (i * w) v.1 hw hv.1
  have E2 := @shr_and w (i * w - 64) v.2 hw hv.2
  unfold vecV laneN
  obtain ⟨lo, hi⟩ := v
  simp only at E1 E2 ⊢
  generalize i * w = q at *
  by_cases c : q < 64
  · rw [if_pos c]
    have c1 : ((q : Int) < 64) := by omega
    have c0 : (0 ≤ (q : Int)) := by omega
    clear hv h128 c E2
    go_enter Tryd.func35, Tryd.ntmps35
    go_wp2_with fail
    go_quiet (with_reducible refine Calls.quiet_of_same (C.out _))
    go_wp2
    go_ret
    exact ⟨congrArg (fun z => Ending.returned (.int .u64 z)) (by push_cast; rfl), below_drewNq ((Below.refl _ _).alloc (Nat.le_refl _) _) _⟩
  · rw [if_neg c]
    obtain ⟨r, hr⟩ : ∃ r, q - 64 = r := ⟨_, rfl⟩
    have c1 : ¬ ((q : Int) < 64) := by omega
    have M2 : wrap64 ((q : Int) - 64) = (r : Int) := by unfold wrap64; omega
    have c2 : (0 ≤ (r : Int)) := by omega
    have c3 : (r : Int) < 64 := by have := hw.pos; omega
    rw [hr] at E2 ⊢
    clear hr
    clear hv h128 c E1
    go_enter Tryd.func35, Tryd.ntmps35
    go_wp2_with fail
    go_quiet (with_reducible refine Calls.quiet_of_same (C.out _))
    go_wp2
    go_ret
    exact ⟨congrArg (fun z => Ending.returned (.int .u64 z)) (by push_cast; rfl), below_drewNq ((Below.refl _ _).alloc (Nat.le_refl _) _) _⟩

set_option maxHeartbeats 400000 in
theorem with_calls {w i n : Nat} (hw : IsW w) (hi : i < 128 / w) (hn : n < 2 ^ w) (v : Nat × Nat) (hv : Vok v) (W : World) :
    Calls Tryd.prog 39 #[vecV v, .int .i64 (w : Int), .int .i64 (i : Int), .int .u64 (n : Int)] W fun e W' => e = .returned (vecV (withN v w i n)) ∧ Below W.heap.size W W' := by
  have h128 := in_word hw hi
  have M : wrap64 ((i : Int) * (w : Int)) = ((i * w : Nat) : Int) := by
    have e : (i : Int) * (w : Int) = ((i * w : Nat) : Int) := by simp
    rw [e]
    unfold wrap64
    omega
  unfold vecV withN
  obtain ⟨lo, hi⟩ := v
  simp only at hv ⊢
  obtain ⟨hv1, hv2⟩ := hv
  generalize i * w = q at *
  by_cases c : q < 64
  · rw [if_pos c]
    have C := hide (@patch_calls lo w q n hw hv1 hn (h128.2 c))
    have c1 : ((q : Int) < 64) := by omega
    clear hv1 hv2 h128 c hn
    generalize patchN lo w q n = p at *
    go_enter Tryd.func39, Tryd.ntmps39
    go_wp2_with ((with_reducible refine (C.out _).mono ?_); rintro e w1 ⟨rfl, m, rfl⟩)
    refine bodyPost_ret (v := .agg #[.int .u64 (p : Int), .int .u64 (hi : Int)]) (by simp [results, Tryd.results39, go_sem]) rfl ?_
    exact ⟨rfl, (((below_drewNq (((Below.refl _ _).alloc (Nat.le_refl _) _).alloc (by simp) _) _).setCell (Nat.le_refl _) _).setCell (Nat.le_succ _) _).setCell (Nat.le_succ _) _⟩
  · rw [if_neg c]
    obtain ⟨r, hr⟩ : ∃ r, q - 64 = r := ⟨_, rfl⟩
    have C := hide (@patch_calls hi w r n hw hv2 hn (by omega))
    have c1 : ¬ ((q : Int) < 64) := by omega
    have M2 : wrap64 ((q : Int) - 64) = (r : Int) := by unfold wrap64; omega
    rw [hr]
    clear hv1 hv2 h128 c hn hr
    generalize patchN hi w r n = p at *
    go_enter Tryd.func39, Tryd.ntmps39
    go_wp2_with ((with_reducible refine (C.out _).mono ?_); rintro e w1 ⟨rfl, m, rfl⟩)
    refine bodyPost_ret (v := .agg #[.int .u64 (lo : Int), .int .u64 (p : Int)]) (by simp [results, Tryd.results39, go_sem]) rfl ?_
    exact ⟨rfl, (((below_drewNq (((Below.refl _ _).alloc (Nat.le_refl _) _).alloc (by simp) _) _).setCell (Nat.le_refl _) _).setCell (Nat.le_succ _) _).setCell (Nat.le_succ _) _⟩

set_option maxHeartbeats 400000 in
theorem lfit_calls (w : Int) (n : Int) (W : World) (hT : WTabs W) :
    Calls Tryd.prog 38 #[.int .i64 w, .int .u64 n] W fun e W' => e = .returned (.bool (ok1 w n)) ∧ Below W.heap.size W W' := by
  have C := hide (ext_calls w n W hT)
  clear hT
  cases h : ok1 w n with
  | false =>
    rw [h] at C
    simp only [pairV, Bool.false_eq_true, if_false] at C
    clear h
    go_enter Tryd.func38, Tryd.ntmps38
    go_wp2_with ((with_reducible refine C.out.mono ?_); rintro e w1 ⟨rfl, B⟩)
    go_ret
    exact ⟨rfl, B⟩
  | true =>
    rw [h] at C
    simp only [pairV, if_true] at C
    clear h
    go_enter Tryd.func38, Tryd.ntmps38
    go_wp2_with ((with_reducible refine C.out.mono ?_); rintro e w1 ⟨rfl, B⟩)
    go_ret
    exact ⟨rfl, B⟩

theorem ok1_zero (w : Int) : ok1 w 0 = isW w := by
  unfold ok1
  cases h : isW w with
  | false => rfl
  | true =>
    obtain ⟨n, rfl, hn⟩ := (isW_iff w).1 h
    rcases hn with rfl | rfl | rfl | rfl <;> rfl

set_option maxHeartbeats 400000 in
theorem lisWidth_calls (w : Int) (W : World) (hT : WTabs W) :
    Calls Tryd.prog 42 #[.int .i64 w] W fun e W' => e = .returned (.bool (isW w)) ∧ Below W.heap.size W W' := by
  have C := lfit_calls w 0 W hT
  rw [ok1_zero] at C
  have C := hide C
  clear hT
  go_enter Tryd.func42, Tryd.ntmps42
  go_wp2_with ((with_reducible refine C.out.mono ?_); rintro e w1 ⟨rfl, B⟩)
  go_ret
  exact ⟨rfl, B⟩

/-- A width, and a lane of it. -/
def isL (w i : Int) : Bool := isW w && (decide (0 ≤ i) && decide (i < 128 / w))

set_option maxHeartbeats 400000 in
theorem isLane_calls (w i : Int) (W : World) (hT : WTabs W) :
    Calls Tryd.prog 34 #[.int .i64 w, .int .i64 i] W fun e W' => e = .returned (.bool (isL w i)) ∧ Below W.heap.size W W' := by
  have C := lisWidth_calls w W hT
  unfold isL
  cases h : isW w with
  | false =>
    rw [h] at C
    have C := hide C
    clear hT h
    go_enter Tryd.func34, Tryd.ntmps34
    go_wp2_with ((with_reducible refine C.out.mono ?_); rintro e w1 ⟨rfl, B⟩)
    go_ret
    exact ⟨rfl, B⟩
  | true =>
    rw [h] at C
    have C := hide C
    obtain ⟨n, rfl, hn⟩ := (isW_iff w).1 h
    clear hT h
    rcases hn with rfl | rfl | rfl | rfl
    all_goals
      simp only [show ((8 : Nat) : Int) = 8 from rfl, show ((16 : Nat) : Int) = 16 from rfl, show ((32 : Nat) : Int) = 32 from rfl, show ((64 : Nat) : Int) = 64 from rfl] at C ⊢
      by_cases c : 0 ≤ i
      · go_enter Tryd.func34, Tryd.ntmps34
        go_wp2_with ((with_reducible refine C.out.mono ?_); rintro e w1 ⟨rfl, B⟩)
        go_ret
        exact ⟨by simp [c], B⟩
      · have c' : decide (0 ≤ i) = false := by simp; omega
        go_enter Tryd.func34, Tryd.ntmps34
        go_wp2_with ((with_reducible refine C.out.mono ?_); rintro e w1 ⟨rfl, B⟩)
        go_ret
        exact ⟨by simp [c]; intro; omega, B⟩
end Go.Proofs.YtdhanapmknlobaaDoor
