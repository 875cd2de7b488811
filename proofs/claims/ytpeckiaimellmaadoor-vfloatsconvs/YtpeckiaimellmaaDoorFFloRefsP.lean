/-
  The document's small functions of floats (genflo.py wrote it).
-/
import Derived.Test.YtpeckiaimellmaaDoorFFloTwoP
set_option linter.unusedVariables false
set_option linter.unusedSimpArgs false
namespace Go.Proofs.YtpeckiaimellmaaDoor.F
open Go.RowKit Flo

set_option maxRecDepth 100000 in
set_option maxHeartbeats 1000000 in
theorem rsign_calls {w : Nat} (hw : IsW w) (W : World) :
    Calls Tryd.prog 72 #[.int .i64 (w : Int)] W fun e W' => e = .returned (.int .u64 (signN w : Int)) ∧ W' = W := by
  rcases hw with rfl | rfl <;>
  · go_enter Tryd.func72, Tryd.ntmps72
    go_wp2
    go_ret
    exact ⟨rfl, rfl⟩

set_option maxRecDepth 100000 in
set_option maxHeartbeats 1000000 in
theorem rNaN_calls {w : Nat} (hw : IsW w) (W : World) :
    Calls Tryd.prog 113 #[.int .i64 (w : Int)] W fun e W' => e = .returned (.int .u64 (nanN w : Int)) ∧ W' = W := by
  rcases hw with rfl | rfl <;>
  · go_enter Tryd.func113, Tryd.ntmps113
    go_wp2
    go_ret
    exact ⟨rfl, rfl⟩

set_option maxRecDepth 100000 in
set_option maxHeartbeats 1000000 in
theorem rendless_calls {w : Nat} (hw : IsW w) (W : World) :
    Calls Tryd.prog 136 #[.int .i64 (w : Int)] W fun e W' => e = .returned (.int .u64 (infN w : Int)) ∧ W' = W := by
  rcases hw with rfl | rfl <;>
  · go_enter Tryd.func136, Tryd.ntmps136
    go_wp2
    go_ret
    exact ⟨rfl, rfl⟩

set_option maxRecDepth 100000 in
set_option maxHeartbeats 1000000 in
theorem rIs_calls {w a : Nat} (hw : IsW w) (ha : a < 2 ^ w) (W : World) :
    Calls Tryd.prog 112 #[.int .i64 (w : Int), .int .u64 (a : Int)] W fun e W' => e = .returned (.bool (na w a)) ∧ W' = W := by
  have S := hide (rsign_calls hw)
  have T := hide (rendless_calls hw)
  have E := bits_andNot_sign hw ha
  clear ha hw
  go_enter Tryd.func112, Tryd.ntmps112
  go_wp2_with (first | ((with_reducible refine (S.out _).mono ?_); rintro e w1 ⟨rfl, rfl⟩) | ((with_reducible refine (T.out _).mono ?_); rintro e w1 ⟨rfl, rfl⟩))
  go_ret
  refine ⟨?_, rfl⟩
  unfold na
  simp

theorem rung_lt63 {w : Nat} (hw : IsW w) (a : Nat) : rung (fm w) a < 9223372036854775808 := by
  have h : rung (fm w) a < signN w := rung_lt _ _
  have : signN w ≤ 9223372036854775808 := by rcases hw with rfl | rfl <;> decide
  omega

set_option maxRecDepth 100000 in
set_option maxHeartbeats 1000000 in
theorem rplace_calls {w a : Nat} (hw : IsW w) (ha : a < 2 ^ w) (W : World) :
    Calls Tryd.prog 114 #[.int .i64 (w : Int), .int .u64 (a : Int)] W fun e W' => e = .returned (.int .i64 (place (fm w) a)) ∧ W' = W := by
  have S := hide (rsign_calls hw)
  have E := bits_and_sign hw ha
  have hr := rung_lt63 hw a
  have hp := parts hw ha
  cases c : neg (fm w) a with
  | false =>
    have e : signOf w a = 0 := by unfold signOf; rw [c]; rfl
    have P : place (fm w) a = (a : Int) := by unfold place sgn; rw [c]; rw [e] at hp; simp; omega
    have E1 : wrap64 (a : Int) = (a : Int) := by rw [e] at hp; simp [wrap64]; omega
    have E2 : IntKind.i64.wrap (a : Int) = (a : Int) := by rw [e] at hp; simp [IntKind.wrap_i64]; omega
    rw [e] at E
    rw [P]
    simp only [show ((0 : Nat) : Int) = 0 from rfl] at E
    clear ha hw hr hp c e P
    go_enter Tryd.func114, Tryd.ntmps114
    go_wp2_with ((with_reducible refine (S.out _).mono ?_); rintro e w1 ⟨rfl, rfl⟩)
    go_ret
    exact ⟨rfl, rfl⟩
  | true =>
    have e : signOf w a = signN w := by unfold signOf; rw [c]; rfl
    have P : place (fm w) a = -(rung (fm w) a : Int) := by unfold place sgn; rw [c]; simp
    have E1 : wrap64 (rung (fm w) a : Int) = (rung (fm w) a : Int) := by simp [wrap64]; omega
    have E2 : IntKind.i64.wrap (rung (fm w) a : Int) = (rung (fm w) a : Int) := by simp [IntKind.wrap_i64]; omega
    have E3 : wrap64 (-(rung (fm w) a : Int)) = -(rung (fm w) a : Int) := by simp [wrap64]; omega
    have E4 : IntKind.i64.wrap (-(rung (fm w) a : Int)) = -(rung (fm w) a : Int) := by simp [IntKind.wrap_i64]; omega
    have E5 := bits_andNot_sign hw ha
    have hs : signN w ≠ 0 := by rcases hw with rfl | rfl <;> decide
    have N : ((signN w : Int) == 0) = false := by simp; exact hs
    rw [e] at E
    rw [P]
    clear ha hw hr hp c e P hs
    generalize (rung (fm w) a : Int) = r at *
    go_enter Tryd.func114, Tryd.ntmps114
    go_wp2_with ((with_reducible refine (S.out _).mono ?_); rintro e w1 ⟨rfl, rfl⟩)
    go_ret
    exact ⟨rfl, rfl⟩

set_option maxRecDepth 100000 in
set_option maxHeartbeats 1000000 in
theorem rless_calls {w a b : Nat} (hw : IsW w) (ha : a < 2 ^ w) (hb : b < 2 ^ w) (W : World) :
    Calls Tryd.prog 73 #[.int .i64 (w : Int), .int .u64 (a : Int), .int .u64 (b : Int)] W fun e W' => e = .returned (.bool (lessN w a b)) ∧ W' = W := by
  have I := rIs_calls hw ha
  have J := rIs_calls hw hb
  have P := rplace_calls hw ha
  have Q := rplace_calls hw hb
  unfold lessN
  generalize place (fm w) a = p at *
  generalize place (fm w) b = q at *
  generalize na w a = x at *
  generalize na w b = y at *
  have I := hide I
  have J := hide J
  have P := hide P
  have Q := hide Q
  clear hw ha hb
  cases x <;> cases y
  all_goals
    go_enter Tryd.func73, Tryd.ntmps73
    go_wp2_with (first | ((with_reducible refine (I.out _).mono ?_); rintro e w1 ⟨rfl, rfl⟩) | ((with_reducible refine (J.out _).mono ?_); rintro e w1 ⟨rfl, rfl⟩) | ((with_reducible refine (P.out _).mono ?_); rintro e w1 ⟨rfl, rfl⟩) | ((with_reducible refine (Q.out _).mono ?_); rintro e w1 ⟨rfl, rfl⟩))
    go_ret
    first | exact ⟨rfl, rfl⟩ | exact ⟨by simp [Bool.beq_eq_decide_eq], rfl⟩

set_option maxRecDepth 100000 in
set_option maxHeartbeats 1000000 in
theorem rsame_calls {w a b : Nat} (hw : IsW w) (ha : a < 2 ^ w) (hb : b < 2 ^ w) (W : World) :
    Calls Tryd.prog 86 #[.int .i64 (w : Int), .int .u64 (a : Int), .int .u64 (b : Int)] W fun e W' => e = .returned (.bool (sameN w a b)) ∧ W' = W := by
  have I := rIs_calls hw ha
  have J := rIs_calls hw hb
  have P := rplace_calls hw ha
  have Q := rplace_calls hw hb
  unfold sameN
  generalize place (fm w) a = p at *
  generalize place (fm w) b = q at *
  generalize na w a = x at *
  generalize na w b = y at *
  have I := hide I
  have J := hide J
  have P := hide P
  have Q := hide Q
  clear hw ha hb
  cases x <;> cases y
  all_goals
    go_enter Tryd.func86, Tryd.ntmps86
    go_wp2_with (first | ((with_reducible refine (I.out _).mono ?_); rintro e w1 ⟨rfl, rfl⟩) | ((with_reducible refine (J.out _).mono ?_); rintro e w1 ⟨rfl, rfl⟩) | ((with_reducible refine (P.out _).mono ?_); rintro e w1 ⟨rfl, rfl⟩) | ((with_reducible refine (Q.out _).mono ?_); rintro e w1 ⟨rfl, rfl⟩))
    go_ret
    first | exact ⟨rfl, rfl⟩ | exact ⟨by simp [Bool.beq_eq_decide_eq], rfl⟩

set_option maxRecDepth 100000 in
set_option maxHeartbeats 1000000 in
theorem rclean_calls {w a : Nat} (hw : IsW w) (ha : a < 2 ^ w) (W : World) :
    Calls Tryd.prog 111 #[.int .i64 (w : Int), .int .u64 (a : Int)] W fun e W' => e = .returned (.int .u64 (cl w a : Int)) ∧ W' = W := by
  have I := rIs_calls hw ha
  have N := hide (rNaN_calls hw)
  cases c : na w a
  all_goals
    rw [c] at I
    have I := hide I
    have V : cl w a = (if na w a = true then nanN w else a) := rfl
    rw [c] at V
    have V := hide V
    go_enter Tryd.func111, Tryd.ntmps111
    go_wp2_with (first | ((with_reducible refine (I.out _).mono ?_); rintro e w1 ⟨rfl, rfl⟩) | ((with_reducible refine (N.out _).mono ?_); rintro e w1 ⟨rfl, rfl⟩))
    go_ret
    exact ⟨by rw [V.out]; rfl, rfl⟩

set_option maxRecDepth 100000 in
set_option maxHeartbeats 1000000 in
theorem rleast_5 {w a b : Nat} (hw : IsW w) (ha : a < 2 ^ w) (hb : b < 2 ^ w) (W : World) :
    Calls Tryd.prog 71 #[.int .u8 5, .int .i64 (w : Int), .int .u64 (a : Int), .int .u64 (b : Int)] W fun e W' => e = .returned (.int .u64 (leastN true w a b : Int)) ∧ W' = W := by
  have I := rIs_calls hw ha
  have J := rIs_calls hw hb
  have S := rsame_calls hw ha hb
  have L := rless_calls hw ha hb
  have N := hide (rNaN_calls hw)
  have G1 := u64_or_nat a b (lt64 hw ha) (lt64 hw hb)
  have G2 := u64_and_nat a b (lt64 hw ha) (lt64 hw hb)
  unfold leastN
  generalize lessN w a b = l at *
  generalize sameN w a b = s at *
  generalize na w a = x at *
  generalize na w b = y at *
  have I := hide I
  have J := hide J
  have S := hide S
  have L := hide L
  clear hw ha hb
  cases x <;> cases y <;> cases s <;> cases l
  all_goals
    go_enter Tryd.func71, Tryd.ntmps71
    go_wp2_with (first | ((with_reducible refine (I.out _).mono ?_); rintro e w1 ⟨rfl, rfl⟩) | ((with_reducible refine (J.out _).mono ?_); rintro e w1 ⟨rfl, rfl⟩) | ((with_reducible refine (S.out _).mono ?_); rintro e w1 ⟨rfl, rfl⟩) | ((with_reducible refine (L.out _).mono ?_); rintro e w1 ⟨rfl, rfl⟩) | ((with_reducible refine (N.out _).mono ?_); rintro e w1 ⟨rfl, rfl⟩))
    go_ret
    exact ⟨rfl, rfl⟩

set_option maxRecDepth 100000 in
set_option maxHeartbeats 1000000 in
theorem rleast_6 {w a b : Nat} (hw : IsW w) (ha : a < 2 ^ w) (hb : b < 2 ^ w) (W : World) :
    Calls Tryd.prog 71 #[.int .u8 6, .int .i64 (w : Int), .int .u64 (a : Int), .int .u64 (b : Int)] W fun e W' => e = .returned (.int .u64 (leastN false w a b : Int)) ∧ W' = W := by
  have I := rIs_calls hw ha
  have J := rIs_calls hw hb
  have S := rsame_calls hw ha hb
  have L := rless_calls hw ha hb
  have N := hide (rNaN_calls hw)
  have G1 := u64_or_nat a b (lt64 hw ha) (lt64 hw hb)
  have G2 := u64_and_nat a b (lt64 hw ha) (lt64 hw hb)
  unfold leastN
  generalize lessN w a b = l at *
  generalize sameN w a b = s at *
  generalize na w a = x at *
  generalize na w b = y at *
  have I := hide I
  have J := hide J
  have S := hide S
  have L := hide L
  clear hw ha hb
  cases x <;> cases y <;> cases s <;> cases l
  all_goals
    go_enter Tryd.func71, Tryd.ntmps71
    go_wp2_with (first | ((with_reducible refine (I.out _).mono ?_); rintro e w1 ⟨rfl, rfl⟩) | ((with_reducible refine (J.out _).mono ?_); rintro e w1 ⟨rfl, rfl⟩) | ((with_reducible refine (S.out _).mono ?_); rintro e w1 ⟨rfl, rfl⟩) | ((with_reducible refine (L.out _).mono ?_); rintro e w1 ⟨rfl, rfl⟩) | ((with_reducible refine (N.out _).mono ?_); rintro e w1 ⟨rfl, rfl⟩))
    go_ret
    exact ⟨rfl, rfl⟩

set_option maxRecDepth 100000 in
set_option maxHeartbeats 1000000 in
theorem rsmall_1 {a b : Nat} (ha : a < 2 ^ 32) (hb : b < 2 ^ 32) (W : World) :
    Calls Tryd.prog 69 #[.int .u8 1, .int .u64 (a : Int), .int .u64 (b : Int)] W fun e W' => e = .returned (.int .u64 (arN 1 32 a b : Int)) ∧ Below W.heap.size W W' := by
  have F := from32
  have G := bits32
  obtain ⟨r, W1, hr, hy, hW⟩ := arith_run 1 32 (by decide) (by decide) (by simp [IsW]) a b W
  have hr' : ∀ t, (binOp .add t (.float .f32 a) (.float .f32 b)).run Tryd.prog W = .ok (.float .f32 r) W1 := hr
  have E1 : IntKind.u32.wrap (a : Int) = (a : Int) := by rw [IntKind.wrap_u32]; omega
  have E2 : IntKind.u32.wrap (b : Int) = (b : Int) := by rw [IntKind.wrap_u32]; omega
  have E3 : IntKind.u64.wrap (r : Int) = (r : Int) := by rw [IntKind.wrap_u64]; omega
  have C := rclean_calls (w := 32) (by simp [IsW]) hy.1
  rw [hy.2] at C
  simp only [show ((32 : Nat) : Int) = 32 from rfl, show ((64 : Nat) : Int) = 64 from rfl] at C
  have C := hide C
  have HW := hide (below_or hW)
  clear hy hW hr ha hb
  go_enter Tryd.func69, Tryd.ntmps69
  go_wp2_with (first | simp only [hr'] | ((with_reducible refine (C.out _).mono ?_); rintro e w1 ⟨rfl, rfl⟩))
  go_ret
  exact ⟨rfl, HW.out⟩

set_option maxRecDepth 100000 in
set_option maxHeartbeats 1000000 in
theorem rsmall_2 {a b : Nat} (ha : a < 2 ^ 32) (hb : b < 2 ^ 32) (W : World) :
    Calls Tryd.prog 69 #[.int .u8 2, .int .u64 (a : Int), .int .u64 (b : Int)] W fun e W' => e = .returned (.int .u64 (arN 2 32 a b : Int)) ∧ Below W.heap.size W W' := by
  have F := from32
  have G := bits32
  obtain ⟨r, W1, hr, hy, hW⟩ := arith_run 2 32 (by decide) (by decide) (by simp [IsW]) a b W
  have hr' : ∀ t, (binOp .sub t (.float .f32 a) (.float .f32 b)).run Tryd.prog W = .ok (.float .f32 r) W1 := hr
  have E1 : IntKind.u32.wrap (a : Int) = (a : Int) := by rw [IntKind.wrap_u32]; omega
  have E2 : IntKind.u32.wrap (b : Int) = (b : Int) := by rw [IntKind.wrap_u32]; omega
  have E3 : IntKind.u64.wrap (r : Int) = (r : Int) := by rw [IntKind.wrap_u64]; omega
  have C := rclean_calls (w := 32) (by simp [IsW]) hy.1
  rw [hy.2] at C
  simp only [show ((32 : Nat) : Int) = 32 from rfl, show ((64 : Nat) : Int) = 64 from rfl] at C
  have C := hide C
  have HW := hide (below_or hW)
  clear hy hW hr ha hb
  go_enter Tryd.func69, Tryd.ntmps69
  go_wp2_with (first | simp only [hr'] | ((with_reducible refine (C.out _).mono ?_); rintro e w1 ⟨rfl, rfl⟩))
  go_ret
  exact ⟨rfl, HW.out⟩

set_option maxRecDepth 100000 in
set_option maxHeartbeats 1000000 in
theorem rsmall_3 {a b : Nat} (ha : a < 2 ^ 32) (hb : b < 2 ^ 32) (W : World) :
    Calls Tryd.prog 69 #[.int .u8 3, .int .u64 (a : Int), .int .u64 (b : Int)] W fun e W' => e = .returned (.int .u64 (arN 3 32 a b : Int)) ∧ Below W.heap.size W W' := by
  have F := from32
  have G := bits32
  obtain ⟨r, W1, hr, hy, hW⟩ := arith_run 3 32 (by decide) (by decide) (by simp [IsW]) a b W
  have hr' : ∀ t, (binOp .mul t (.float .f32 a) (.float .f32 b)).run Tryd.prog W = .ok (.float .f32 r) W1 := hr
  have E1 : IntKind.u32.wrap (a : Int) = (a : Int) := by rw [IntKind.wrap_u32]; omega
  have E2 : IntKind.u32.wrap (b : Int) = (b : Int) := by rw [IntKind.wrap_u32]; omega
  have E3 : IntKind.u64.wrap (r : Int) = (r : Int) := by rw [IntKind.wrap_u64]; omega
  have C := rclean_calls (w := 32) (by simp [IsW]) hy.1
  rw [hy.2] at C
  simp only [show ((32 : Nat) : Int) = 32 from rfl, show ((64 : Nat) : Int) = 64 from rfl] at C
  have C := hide C
  have HW := hide (below_or hW)
  clear hy hW hr ha hb
  go_enter Tryd.func69, Tryd.ntmps69
  go_wp2_with (first | simp only [hr'] | ((with_reducible refine (C.out _).mono ?_); rintro e w1 ⟨rfl, rfl⟩))
  go_ret
  exact ⟨rfl, HW.out⟩

set_option maxRecDepth 100000 in
set_option maxHeartbeats 1000000 in
theorem rsmall_4 {a b : Nat} (ha : a < 2 ^ 32) (hb : b < 2 ^ 32) (W : World) :
    Calls Tryd.prog 69 #[.int .u8 4, .int .u64 (a : Int), .int .u64 (b : Int)] W fun e W' => e = .returned (.int .u64 (arN 4 32 a b : Int)) ∧ Below W.heap.size W W' := by
  have F := from32
  have G := bits32
  obtain ⟨r, W1, hr, hy, hW⟩ := arith_run 4 32 (by decide) (by decide) (by simp [IsW]) a b W
  have hr' : ∀ t, (binOp .quo t (.float .f32 a) (.float .f32 b)).run Tryd.prog W = .ok (.float .f32 r) W1 := hr
  have E1 : IntKind.u32.wrap (a : Int) = (a : Int) := by rw [IntKind.wrap_u32]; omega
  have E2 : IntKind.u32.wrap (b : Int) = (b : Int) := by rw [IntKind.wrap_u32]; omega
  have E3 : IntKind.u64.wrap (r : Int) = (r : Int) := by rw [IntKind.wrap_u64]; omega
  have C := rclean_calls (w := 32) (by simp [IsW]) hy.1
  rw [hy.2] at C
  simp only [show ((32 : Nat) : Int) = 32 from rfl, show ((64 : Nat) : Int) = 64 from rfl] at C
  have C := hide C
  have HW := hide (below_or hW)
  clear hy hW hr ha hb
  go_enter Tryd.func69, Tryd.ntmps69
  go_wp2_with (first | simp only [hr'] | ((with_reducible refine (C.out _).mono ?_); rintro e w1 ⟨rfl, rfl⟩))
  go_ret
  exact ⟨rfl, HW.out⟩

set_option maxRecDepth 100000 in
set_option maxHeartbeats 1000000 in
theorem rgreat_1 {a b : Nat} (ha : a < 2 ^ 64) (hb : b < 2 ^ 64) (W : World) :
    Calls Tryd.prog 70 #[.int .u8 1, .int .u64 (a : Int), .int .u64 (b : Int)] W fun e W' => e = .returned (.int .u64 (arN 1 64 a b : Int)) ∧ Below W.heap.size W W' := by
  have F := from64
  have G := bits64
  obtain ⟨r, W1, hr, hy, hW⟩ := arith_run 1 64 (by decide) (by decide) (by simp [IsW]) a b W
  have hr' : ∀ t, (binOp .add t (.float .f64 a) (.float .f64 b)).run Tryd.prog W = .ok (.float .f64 r) W1 := hr
  have C := rclean_calls (w := 64) (by simp [IsW]) hy.1
  rw [hy.2] at C
  simp only [show ((32 : Nat) : Int) = 32 from rfl, show ((64 : Nat) : Int) = 64 from rfl] at C
  have C := hide C
  have HW := hide (below_or hW)
  clear hy hW hr ha hb
  go_enter Tryd.func70, Tryd.ntmps70
  go_wp2_with (first | simp only [hr'] | ((with_reducible refine (C.out _).mono ?_); rintro e w1 ⟨rfl, rfl⟩))
  go_ret
  exact ⟨rfl, HW.out⟩

set_option maxRecDepth 100000 in
set_option maxHeartbeats 1000000 in
theorem rgreat_2 {a b : Nat} (ha : a < 2 ^ 64) (hb : b < 2 ^ 64) (W : World) :
    Calls Tryd.prog 70 #[.int .u8 2, .int .u64 (a : Int), .int .u64 (b : Int)] W fun e W' => e = .returned (.int .u64 (arN 2 64 a b : Int)) ∧ Below W.heap.size W W' := by
  have F := from64
  have G := bits64
  obtain ⟨r, W1, hr, hy, hW⟩ := arith_run 2 64 (by decide) (by decide) (by simp [IsW]) a b W
  have hr' : ∀ t, (binOp .sub t (.float .f64 a) (.float .f64 b)).run Tryd.prog W = .ok (.float .f64 r) W1 := hr
  have C := rclean_calls (w := 64) (by simp [IsW]) hy.1
  rw [hy.2] at C
  simp only [show ((32 : Nat) : Int) = 32 from rfl, show ((64 : Nat) : Int) = 64 from rfl] at C
  have C := hide C
  have HW := hide (below_or hW)
  clear hy hW hr ha hb
  go_enter Tryd.func70, Tryd.ntmps70
  go_wp2_with (first | simp only [hr'] | ((with_reducible refine (C.out _).mono ?_); rintro e w1 ⟨rfl, rfl⟩))
  go_ret
  exact ⟨rfl, HW.out⟩

set_option maxRecDepth 100000 in
set_option maxHeartbeats 1000000 in
theorem rgreat_3 {a b : Nat} (ha : a < 2 ^ 64) (hb : b < 2 ^ 64) (W : World) :
    Calls Tryd.prog 70 #[.int .u8 3, .int .u64 (a : Int), .int .u64 (b : Int)] W fun e W' => e = .returned (.int .u64 (arN 3 64 a b : Int)) ∧ Below W.heap.size W W' := by
  have F := from64
  have G := bits64
  obtain ⟨r, W1, hr, hy, hW⟩ := arith_run 3 64 (by decide) (by decide) (by simp [IsW]) a b W
  have hr' : ∀ t, (binOp .mul t (.float .f64 a) (.float .f64 b)).run Tryd.prog W = .ok (.float .f64 r) W1 := hr
  have C := rclean_calls (w := 64) (by simp [IsW]) hy.1
  rw [hy.2] at C
  simp only [show ((32 : Nat) : Int) = 32 from rfl, show ((64 : Nat) : Int) = 64 from rfl] at C
  have C := hide C
  have HW := hide (below_or hW)
  clear hy hW hr ha hb
  go_enter Tryd.func70, Tryd.ntmps70
  go_wp2_with (first | simp only [hr'] | ((with_reducible refine (C.out _).mono ?_); rintro e w1 ⟨rfl, rfl⟩))
  go_ret
  exact ⟨rfl, HW.out⟩

set_option maxRecDepth 100000 in
set_option maxHeartbeats 1000000 in
theorem rgreat_4 {a b : Nat} (ha : a < 2 ^ 64) (hb : b < 2 ^ 64) (W : World) :
    Calls Tryd.prog 70 #[.int .u8 4, .int .u64 (a : Int), .int .u64 (b : Int)] W fun e W' => e = .returned (.int .u64 (arN 4 64 a b : Int)) ∧ Below W.heap.size W W' := by
  have F := from64
  have G := bits64
  obtain ⟨r, W1, hr, hy, hW⟩ := arith_run 4 64 (by decide) (by decide) (by simp [IsW]) a b W
  have hr' : ∀ t, (binOp .quo t (.float .f64 a) (.float .f64 b)).run Tryd.prog W = .ok (.float .f64 r) W1 := hr
  have C := rclean_calls (w := 64) (by simp [IsW]) hy.1
  rw [hy.2] at C
  simp only [show ((32 : Nat) : Int) = 32 from rfl, show ((64 : Nat) : Int) = 64 from rfl] at C
  have C := hide C
  have HW := hide (below_or hW)
  clear hy hW hr ha hb
  go_enter Tryd.func70, Tryd.ntmps70
  go_wp2_with (first | simp only [hr'] | ((with_reducible refine (C.out _).mono ?_); rintro e w1 ⟨rfl, rfl⟩))
  go_ret
  exact ⟨rfl, HW.out⟩

end Go.Proofs.YtpeckiaimellmaaDoor.F
