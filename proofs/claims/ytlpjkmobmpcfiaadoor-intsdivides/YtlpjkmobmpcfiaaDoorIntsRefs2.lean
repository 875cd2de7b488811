/-
  The document's divided, held, oneOf, q15.
-/
import Derived.Test.YtlpjkmobmpcfiaaDoorIntsTwo
import Derived.Test.YtlpjkmobmpcfiaaDoorIntsRefs
set_option linter.unusedVariables false
set_option linter.unusedSimpArgs false
namespace Go.Proofs.YtlpjkmobmpcfiaaDoor
open Go.RowKit Ints

theorem rem_neg1 {w : Nat} {a b : Int} (h : wo w b = -1) : remS w a b = 0 := by
  unfold remS
  rw [h, Int.tmod_neg, Int.tmod_one]
  unfold cutI
  simp

set_option maxRecDepth 100000 in
set_option maxHeartbeats 2000000 in
theorem divided_zero {w : Nat} (hw : IsW w) (op a : Int) (ha : Of w a) (hb : Of w 0) (W : World) :
    Calls Tryd.prog 35 #[.int .u8 op, .int .i64 (w : Int), .int .u64 a, .int .u64 0] W fun e W' => e = .returned (.tuple #[.int .u64 0, .int .i64 6]) ∧ W' = W := by
  have CA := hide (rworth_calls hw a ha)
  have CB := hide (rworth_calls hw 0 hb)
  clear ha hb
  go_enter Tryd.func35, Tryd.ntmps35
  go_wp2_with (first | (with_reducible refine (CA.out _).mono ?_; rintro e w1 ⟨rfl, rfl⟩) | (with_reducible refine (CB.out _).mono ?_; rintro e w1 ⟨rfl, rfl⟩))
  refine bodyPost_ret (v := .tuple #[.int .u64 0, .int .i64 6]) (by simp [results, Tryd.results35, go_sem]) rfl ?_
  exact ⟨rfl, rfl⟩

set_option maxRecDepth 100000 in
set_option maxHeartbeats 2000000 in
theorem divided_4 {w : Nat} (hw : IsW w) (a b : Int) (ha : Of w a) (hb : Of w b) (c : ¬ b = 0) (W : World) :
    Calls Tryd.prog 35 #[.int .u8 4, .int .i64 (w : Int), .int .u64 a, .int .u64 b] W fun e W' => e = .returned (.tuple #[.int .u64 (a / b), .int .i64 0]) ∧ W' = W := by
  have CA := hide (rworth_calls hw a ha)
  have CB := hide (rworth_calls hw b hb)
  have E : IntKind.u64.wrap (a.tdiv b) = a / b := by
    rw [Int.tdiv_eq_ediv_of_nonneg ha.1, IntKind.wrap_u64]
    have h1 := Int.ediv_nonneg ha.1 hb.1
    have h2 := Int.ediv_le_self b ha.1
    have h3 := ha.lt64 hw
    omega
  clear ha hb
  go_enter Tryd.func35, Tryd.ntmps35
  go_wp2_with (first | (with_reducible refine (CA.out _).mono ?_; rintro e w1 ⟨rfl, rfl⟩) | (with_reducible refine (CB.out _).mono ?_; rintro e w1 ⟨rfl, rfl⟩))
  refine bodyPost_ret (v := .tuple #[.int .u64 (a / b), .int .i64 0]) (by simp [results, Tryd.results35, go_sem]) rfl ?_
  exact ⟨rfl, rfl⟩

set_option maxRecDepth 100000 in
set_option maxHeartbeats 2000000 in
theorem divided_5 {w : Nat} (hw : IsW w) (a b : Int) (ha : Of w a) (hb : Of w b) (c : ¬ b = 0) (W : World) :
    Calls Tryd.prog 35 #[.int .u8 5, .int .i64 (w : Int), .int .u64 a, .int .u64 b] W fun e W' => e = .returned (.tuple #[.int .u64 (a % b), .int .i64 0]) ∧ W' = W := by
  have CA := hide (rworth_calls hw a ha)
  have CB := hide (rworth_calls hw b hb)
  have E : a.tmod b = a % b := Int.tmod_eq_emod_of_nonneg ha.1
  clear ha hb
  go_enter Tryd.func35, Tryd.ntmps35
  go_wp2_with (first | (with_reducible refine (CA.out _).mono ?_; rintro e w1 ⟨rfl, rfl⟩) | (with_reducible refine (CB.out _).mono ?_; rintro e w1 ⟨rfl, rfl⟩))
  refine bodyPost_ret (v := .tuple #[.int .u64 (a % b), .int .i64 0]) (by simp [results, Tryd.results35, go_sem]) rfl ?_
  exact ⟨rfl, rfl⟩

set_option maxRecDepth 100000 in
set_option maxHeartbeats 2000000 in
theorem divided_7 {w : Nat} (hw : IsW w) (a b : Int) (ha : Of w a) (hb : Of w b) (c : ¬ b = 0) (W : World) :
    Calls Tryd.prog 35 #[.int .u8 7, .int .i64 (w : Int), .int .u64 a, .int .u64 b] W fun e W' => e = .returned (.tuple #[.int .u64 (remS w a b), .int .i64 0]) ∧ W' = W := by
  have CA := hide (rworth_calls hw a ha)
  have CB := hide (rworth_calls hw b hb)
  have CN := hide (@number_calls w hw)
  have hy : ¬ wo w b = 0 := fun h => c ((wo_zero hw hb).1 h)
  clear ha hb
  by_cases cy : wo w b = -1
  · have R := hide (rem_neg1 (a := a) cy)
    go_enter Tryd.func35, Tryd.ntmps35
    go_wp2_with (first | (with_reducible refine (CA.out _).mono ?_; rintro e w1 ⟨rfl, rfl⟩) | (with_reducible refine (CB.out _).mono ?_; rintro e w1 ⟨rfl, rfl⟩))
    refine bodyPost_ret (v := .tuple #[.int .u64 0, .int .i64 0]) (by simp [results, Tryd.results35, go_sem]) rfl ?_
    exact ⟨by rw [R.out], rfl⟩
  · have R := hide (show cutI w ((wo w a).tmod (wo w b)) = remS w a b from rfl)
    go_enter Tryd.func35, Tryd.ntmps35
    go_wp2_with (first | (with_reducible refine (CA.out _).mono ?_; rintro e w1 ⟨rfl, rfl⟩) | (with_reducible refine (CB.out _).mono ?_; rintro e w1 ⟨rfl, rfl⟩) | (with_reducible refine (CN.out _ _).mono ?_; rintro e w1 ⟨rfl, rfl⟩))
    refine bodyPost_ret (v := .tuple #[.int .u64 (cutI w ((wo w a).tmod (wo w b))), .int .i64 0]) (by simp [results, Tryd.results35, go_sem]) rfl ?_
    exact ⟨by rw [R.out], rfl⟩

set_option maxRecDepth 100000 in
set_option maxHeartbeats 2000000 in
theorem divided_6t {w : Nat} (hw : IsW w) (a b : Int) (ha : Of w a) (hb : Of w b) (c : ¬ b = 0) (c2 : traps w a b = true) (W : World) :
    Calls Tryd.prog 35 #[.int .u8 6, .int .i64 (w : Int), .int .u64 a, .int .u64 b] W fun e W' => e = .returned (.tuple #[.int .u64 0, .int .i64 6]) ∧ W' = W := by
  have CA := hide (rworth_calls hw a ha)
  have CB := hide (rworth_calls hw b hb)
  have CL := hide (@rleast_calls w hw)
  unfold traps at c2
  simp only [Bool.and_eq_true, decide_eq_true_eq] at c2
  obtain ⟨cx, cy⟩ := c2
  rw [cx] at CA
  rw [cy] at CB
  clear ha hb cx cy
  go_enter Tryd.func35, Tryd.ntmps35
  go_wp2_with (first | (with_reducible refine (CA.out _).mono ?_; rintro e w1 ⟨rfl, rfl⟩) | (with_reducible refine (CB.out _).mono ?_; rintro e w1 ⟨rfl, rfl⟩) | (with_reducible refine (CL.out _).mono ?_; rintro e w1 ⟨rfl, rfl⟩))
  refine bodyPost_ret (v := .tuple #[.int .u64 0, .int .i64 6]) (by simp [results, Tryd.results35, go_sem]) rfl ?_
  exact ⟨rfl, rfl⟩

set_option maxRecDepth 100000 in
set_option maxHeartbeats 2000000 in
theorem divided_6n {w : Nat} (hw : IsW w) (a b : Int) (ha : Of w a) (hb : Of w b) (c : ¬ b = 0) (c2 : traps w a b = false) (W : World) :
    Calls Tryd.prog 35 #[.int .u8 6, .int .i64 (w : Int), .int .u64 a, .int .u64 b] W fun e W' => e = .returned (.tuple #[.int .u64 (divS w a b), .int .i64 0]) ∧ W' = W := by
  have CA := hide (rworth_calls hw a ha)
  have CB := hide (rworth_calls hw b hb)
  have CL := hide (@rleast_calls w hw)
  have CN := hide (@number_calls w hw)
  have hy : ¬ wo w b = 0 := fun h => c ((wo_zero hw hb).1 h)
  have R := hide (show cutI w (wrap64 ((wo w a).tdiv (wo w b))) = divS w a b by rw [cut_w64 hw]; rfl)
  unfold traps at c2
  clear ha hb
  generalize wo w a = x at *
  generalize wo w b = y at *
  by_cases cx : x = lo w
  · have cy : (y == -1) = false := by
      subst cx
      simpa using c2
    have cx' : (x == lo w) = true := by simp [cx]
    clear cx c2
    go_enter Tryd.func35, Tryd.ntmps35
    go_wp2_with (first | (with_reducible refine (CA.out _).mono ?_; rintro e w1 ⟨rfl, rfl⟩) | (with_reducible refine (CB.out _).mono ?_; rintro e w1 ⟨rfl, rfl⟩) | (with_reducible refine (CL.out _).mono ?_; rintro e w1 ⟨rfl, rfl⟩) | (with_reducible refine (CN.out _ _).mono ?_; rintro e w1 ⟨rfl, rfl⟩))
    refine bodyPost_ret (v := .tuple #[.int .u64 (cutI w (wrap64 (x.tdiv y))), .int .i64 0]) (by simp [results, Tryd.results35, go_sem]) rfl ?_
    exact ⟨by rw [R.out], rfl⟩
  · have cx' : (x == lo w) = false := by simp [cx]
    clear c2 cx
    go_enter Tryd.func35, Tryd.ntmps35
    go_wp2_with (first | (with_reducible refine (CA.out _).mono ?_; rintro e w1 ⟨rfl, rfl⟩) | (with_reducible refine (CB.out _).mono ?_; rintro e w1 ⟨rfl, rfl⟩) | (with_reducible refine (CL.out _).mono ?_; rintro e w1 ⟨rfl, rfl⟩) | (with_reducible refine (CN.out _ _).mono ?_; rintro e w1 ⟨rfl, rfl⟩))
    refine bodyPost_ret (v := .tuple #[.int .u64 (cutI w (wrap64 (x.tdiv y))), .int .i64 0]) (by simp [results, Tryd.results35, go_sem]) rfl ?_
    exact ⟨by rw [R.out], rfl⟩

/-! held -/

theorem addH_of (w : Nat) (a b z : Int) (h : z = min (max (wo w a + wo w b) (lo w)) (hi w)) : cutI w z = addH w a b := by rw [h]; rfl
theorem subH_of (w : Nat) (a b z : Int) (h : z = min (max (wo w a - wo w b) (lo w)) (hi w)) : cutI w z = subH w a b := by rw [h]; rfl

set_option maxRecDepth 100000 in
set_option maxHeartbeats 2000000 in
theorem held_16 {w : Nat} (hw : IsW w) (a b : Int) (ha : Of w a) (hb : Of w b) (W : World) :
    Calls Tryd.prog 38 #[.int .u8 16, .int .i64 (w : Int), .int .u64 a, .int .u64 b] W fun e W' => e = .returned (.int .u64 (min (a + b) (mo w))) ∧ W' = W := by
  have CA := hide (rworth_calls hw a ha)
  have CB := hide (rworth_calls hw b hb)
  have CM := hide (@rmost_calls w hw)
  have G := hide (show 0 ≤ a ∧ 0 ≤ b ∧ a ≤ mo w ∧ b ≤ mo w ∧ mo w < 18446744073709551616 from ⟨ha.1, hb.1, mo_ge ha, mo_ge hb, by rcases hw with rfl | rfl | rfl | rfl <;> decide⟩)
  clear ha hb
  go_enter Tryd.func38, Tryd.ntmps38
  go_wp2_with (first | (with_reducible refine (CA.out _).mono ?_; rintro e w1 ⟨rfl, rfl⟩) | (with_reducible refine (CB.out _).mono ?_; rintro e w1 ⟨rfl, rfl⟩) | (with_reducible refine (CM.out _).mono ?_; rintro e w1 ⟨rfl, rfl⟩))
  all_goals
    go_ret
    refine ⟨congrArg (fun z => Ending.returned (.int .u64 z)) ?_, rfl⟩
    have := G.out
    try simp only [IntKind.wrap_u64] at *
    omega

set_option maxRecDepth 100000 in
set_option maxHeartbeats 2000000 in
theorem held_17 {w : Nat} (hw : IsW w) (a b : Int) (ha : Of w a) (hb : Of w b) (W : World) :
    Calls Tryd.prog 38 #[.int .u8 17, .int .i64 (w : Int), .int .u64 a, .int .u64 b] W fun e W' => e = .returned (.int .u64 (max (a - b) 0)) ∧ W' = W := by
  have CA := hide (rworth_calls hw a ha)
  have CB := hide (rworth_calls hw b hb)
  have G := hide (show 0 ≤ a ∧ 0 ≤ b ∧ a < 18446744073709551616 ∧ b < 18446744073709551616 from ⟨ha.1, hb.1, ha.lt64 hw, hb.lt64 hw⟩)
  clear ha hb
  go_enter Tryd.func38, Tryd.ntmps38
  go_wp2_with (first | (with_reducible refine (CA.out _).mono ?_; rintro e w1 ⟨rfl, rfl⟩) | (with_reducible refine (CB.out _).mono ?_; rintro e w1 ⟨rfl, rfl⟩))
  all_goals
    go_ret
    refine ⟨congrArg (fun z => Ending.returned (.int .u64 z)) ?_, rfl⟩
    have := G.out
    try simp only [IntKind.wrap_u64] at *
    omega

set_option maxRecDepth 100000 in
set_option maxHeartbeats 2000000 in
theorem held_18 {w : Nat} (hw : IsW w) (a b : Int) (ha : Of w a) (hb : Of w b) (W : World) :
    Calls Tryd.prog 38 #[.int .u8 18, .int .i64 (w : Int), .int .u64 a, .int .u64 b] W fun e W' => e = .returned (.int .u64 (addH w a b)) ∧ W' = W := by
  have CA := hide (rworth_calls hw a ha)
  have CB := hide (rworth_calls hw b hb)
  have CL := hide (@rleast_calls w hw)
  have CG := hide (@rgreatest_calls w hw)
  have CN := hide (@number_calls w hw)
  have G := hide (And.intro (wo_range hw ha) (And.intro (wo_range hw hb) (lohi hw)))
  have R := hide (addH_of w a b)
  clear ha hb
  generalize wo w a = x at *
  generalize wo w b = y at *
  go_enter Tryd.func38, Tryd.ntmps38
  go_wp2_with (first | (with_reducible refine (CA.out _).mono ?_; rintro e w1 ⟨rfl, rfl⟩) | (with_reducible refine (CB.out _).mono ?_; rintro e w1 ⟨rfl, rfl⟩) | (with_reducible refine (CL.out _).mono ?_; rintro e w1 ⟨rfl, rfl⟩) | (with_reducible refine (CG.out _).mono ?_; rintro e w1 ⟨rfl, rfl⟩) | (with_reducible refine (CN.out _ _).mono ?_; rintro e w1 ⟨rfl, rfl⟩))
  all_goals
    go_ret
    refine ⟨congrArg (fun z => Ending.returned (.int .u64 z)) ?_, rfl⟩
    have := G.out
    refine R.out _ ?_
    simp only [wrap64] at *
    omega

set_option maxRecDepth 100000 in
set_option maxHeartbeats 2000000 in
theorem held_19 {w : Nat} (hw : IsW w) (a b : Int) (ha : Of w a) (hb : Of w b) (W : World) :
    Calls Tryd.prog 38 #[.int .u8 19, .int .i64 (w : Int), .int .u64 a, .int .u64 b] W fun e W' => e = .returned (.int .u64 (subH w a b)) ∧ W' = W := by
  have CA := hide (rworth_calls hw a ha)
  have CB := hide (rworth_calls hw b hb)
  have CL := hide (@rleast_calls w hw)
  have CG := hide (@rgreatest_calls w hw)
  have CN := hide (@number_calls w hw)
  have G := hide (And.intro (wo_range hw ha) (And.intro (wo_range hw hb) (lohi hw)))
  have R := hide (subH_of w a b)
  clear ha hb
  generalize wo w a = x at *
  generalize wo w b = y at *
  go_enter Tryd.func38, Tryd.ntmps38
  go_wp2_with (first | (with_reducible refine (CA.out _).mono ?_; rintro e w1 ⟨rfl, rfl⟩) | (with_reducible refine (CB.out _).mono ?_; rintro e w1 ⟨rfl, rfl⟩) | (with_reducible refine (CL.out _).mono ?_; rintro e w1 ⟨rfl, rfl⟩) | (with_reducible refine (CG.out _).mono ?_; rintro e w1 ⟨rfl, rfl⟩) | (with_reducible refine (CN.out _ _).mono ?_; rintro e w1 ⟨rfl, rfl⟩))
  all_goals
    go_ret
    refine ⟨congrArg (fun z => Ending.returned (.int .u64 z)) ?_, rfl⟩
    have := G.out
    refine R.out _ ?_
    simp only [wrap64] at *
    omega

/-! the lesser, the greater -/

theorem cut_wo {w : Nat} (hw : IsW w) {a : Int} (ha : Of w a) : cutI w (wo w a) = a := by
  obtain ⟨h0, h1⟩ := ha
  rcases hw with rfl | rfl | rfl | rfl <;> simp only [wo, cutI, Nat.reduceSub, Int.reducePow] at h1 ⊢ <;> split <;> omega

set_option maxRecDepth 100000 in
set_option maxHeartbeats 2000000 in
theorem oneOf_calls {w : Nat} (hw : IsW w) (op a b : Int) (ha : Of w a) (hb : Of w b) (z : Int) (W : World)
    (hz : (op = 20 ∧ z = min a b) ∨ (op = 21 ∧ z = max a b) ∨ (op = 22 ∧ z = cutI w (min (wo w a) (wo w b))) ∨ (op = 23 ∧ z = cutI w (max (wo w a) (wo w b)))) :
    Calls Tryd.prog 39 #[.int .u8 op, .int .i64 (w : Int), .int .u64 a, .int .u64 b] W fun e W' => e = .returned (.int .u64 z) ∧ W' = W := by
  have CA := hide (rworth_calls hw a ha)
  have CB := hide (rworth_calls hw b hb)
  have KA := hide (cut_wo hw ha)
  have KB := hide (cut_wo hw hb)
  clear ha hb
  rcases hz with ⟨rfl, h⟩ | ⟨rfl, h⟩ | ⟨rfl, h⟩ | ⟨rfl, h⟩
  all_goals
    have HZ := hide h
    clear h
    generalize wo w a = x at *
    generalize wo w b = y at *
    go_enter Tryd.func39, Tryd.ntmps39
    go_wp2_with (first | (with_reducible refine (CA.out _).mono ?_; rintro e w1 ⟨rfl, rfl⟩) | (with_reducible refine (CB.out _).mono ?_; rintro e w1 ⟨rfl, rfl⟩))
    all_goals
      go_ret
      refine ⟨congrArg (fun z => Ending.returned (.int .u64 z)) ?_, rfl⟩
      have h := HZ.out
      have ka := KA.out
      have kb := KB.out
      try simp only [Bool.not_eq_eq_eq_not, Bool.not_true, Bool.not_false, decide_eq_false_iff_not, decide_eq_true_eq, Int.not_lt, Bool.not_eq_true, Bool.not_eq_false] at *
      first
        | omega
        | (rw [h, Int.min_eq_left (by omega), ka]; done)
        | (rw [h, Int.min_eq_right (by omega), kb]; done)
        | (rw [h, Int.max_eq_left (by omega), ka]; done)
        | (rw [h, Int.max_eq_right (by omega), kb]; done)

set_option maxRecDepth 100000 in
set_option maxHeartbeats 2000000 in
theorem rq15_calls (a b : Int) (ha : Of 16 a) (hb : Of 16 b) (W : World) :
    Calls Tryd.prog 40 #[.int .u64 a, .int .u64 b] W fun e W' => e = .returned (.int .u64 (q15I a b)) ∧ W' = W := by
  have h16 : IsW 16 := by simp [IsW]
  have CA := rworth_calls h16 a ha
  simp only [show ((16 : Nat) : Int) = 16 from rfl] at CA
  have CA := hide CA
  have CB := rworth_calls h16 b hb
  simp only [show ((16 : Nat) : Int) = 16 from rfl] at CB
  have CB := hide CB
  have CN := @number_calls 16 h16
  simp only [show ((16 : Nat) : Int) = 16 from rfl] at CN
  have CN := hide CN
  have p := prod_16 (wo_range h16 ha) (wo_range h16 hb)
  have E1 : wrap64 (wo 16 a * wo 16 b) = wo 16 a * wo 16 b := by unfold wrap64; omega
  have E2 : wrap64 (wo 16 a * wo 16 b + 16384) = wo 16 a * wo 16 b + 16384 := by unfold wrap64; omega
  clear p ha hb
  go_enter Tryd.func40, Tryd.ntmps40
  go_wp2_with (first | (with_reducible refine (CA.out _).mono ?_; rintro e w1 ⟨rfl, rfl⟩) | (with_reducible refine (CB.out _).mono ?_; rintro e w1 ⟨rfl, rfl⟩) | (with_reducible refine (CN.out _ _).mono ?_; rintro e w1 ⟨rfl, rfl⟩))
  go_ret
  exact ⟨rfl, rfl⟩
end Go.Proofs.YtlpjkmobmpcfiaaDoor
