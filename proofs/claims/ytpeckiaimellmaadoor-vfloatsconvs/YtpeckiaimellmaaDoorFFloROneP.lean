/-
  The document's rounded, root, One (genflo.py wrote it).
-/
import Derived.Test.YtpeckiaimellmaaDoorFFloRTwoP
import Derived.Test.YtpeckiaimellmaaDoorFFloRWholeP
import Derived.Test.YtpeckiaimellmaaDoorFFloOneP
set_option linter.unusedVariables false
set_option linter.unusedSimpArgs false
namespace Go.Proofs.YtpeckiaimellmaaDoor.F
open Go.RowKit Flo

theorem rwhole_calls {w r : Nat} (hw : IsW w) (hr : r < signN w) (W : World) :
    Calls Tryd.prog 124 #[.int .i64 (w : Int), .int .u64 (r : Int)] W fun e W' => e = .returned (tupF (wholeF (fm w) r)) ∧ W' = W := by
  rcases hw with rfl | rfl
  · exact rwhole32_calls (by rw [sign32] at hr; exact hr) W
  · exact rwhole64_calls (by rw [sign64] at hr; exact hr) W
theorem rodd_calls {w r : Nat} (hw : IsW w) (hr : r < signN w) (W : World) :
    Calls Tryd.prog 125 #[.int .i64 (w : Int), .int .u64 (r : Int)] W fun e W' => e = .returned (.bool (oddF (fm w) r)) ∧ W' = W := by
  rcases hw with rfl | rfl
  · exact rodd32_calls (by rw [sign32] at hr; exact hr) W
  · exact rodd64_calls (by rw [sign64] at hr; exact hr) W
theorem up_ok {f : Ieee.Format} (g : Flo.Good f) {way : Ieee.Toward} {s : Bool} {r : Nat} (h : goesF f way s r = true) : (wholeF f r).1 = 0 ∨ (bias f ≤ (wholeF f r).1 / f.binade ∧ (wholeF f r).1 / f.binade ≤ f.fractionBits + bias f) := by
  have hB := binade_pos f
  cases kind_of g r with
  | great _ _ w => unfold goesF at h; rw [w] at h; cases way <;> simp at h
  | small _ _ _ _ w => left; rw [w]
  | mid q t k hq hk hk' hs hr ht ex u b mt w =>
    right
    rw [w]
    have hmle := Nat.mod_le t (2 ^ k)
    have e1 : r - t % 2 ^ k = f.binade * q + (t - t % 2 ^ k) := by omega
    have ed : (f.binade * q + (t - t % 2 ^ k)) / f.binade = q := by
      rw [Nat.mul_add_div hB, Nat.div_eq_of_lt (by omega), Nat.add_zero]
    simp only
    rw [e1, ed]
    omega
theorem rup_calls {w r : Nat} (hw : IsW w) (hr : r < signN w) (h : r = 0 ∨ (bias (fm w) ≤ r / (fm w).binade ∧ r / (fm w).binade ≤ (fm w).fractionBits + bias (fm w))) (W : World) :
    Calls Tryd.prog 126 #[.int .i64 (w : Int), .int .u64 (r : Int)] W fun e W' => e = .returned (.int .u64 (upF (fm w) r : Int)) ∧ W' = W := by
  rcases hw with rfl | rfl
  · rw [fm32, bias32, binade32, digits32] at h
    exact rup32_calls (by rw [sign32] at hr; exact hr) (by omega) W
  · rw [fm64, bias64, binade64, digits64] at h
    exact rup64_calls (by rw [sign64] at hr; exact hr) (by omega) W

set_option maxRecDepth 100000 in
set_option maxHeartbeats 1000000 in
theorem rrounded_13 {w a : Nat} (hw : IsW w) (ha : a < 2 ^ w) (hn : na w a = false) (W : World) :
    Calls Tryd.prog 85 #[.int .u8 13, .int .i64 (w : Int), .int .u64 (a : Int)] W fun e W' => e = .returned (.int .u64 (rndN .up w a : Int)) ∧ W' = W := by
  have I := rIs_calls hw ha
  rw [hn] at I
  have I := hide I
  have S := hide (rsign_calls hw)
  have hrl : rung (fm w) a < signN w := rung_lt _ _
  have hml : (wholeF (fm w) (rung (fm w) a)).1 < signN w := Nat.lt_of_le_of_lt (whole_le (good w) _) hrl
  have Wh := rwhole_calls hw hrl
  have Od := rodd_calls hw hml
  have Up : goesF (fm w) .up (neg (fm w) a) (rung (fm w) a) = true → _ := fun h => rup_calls hw hml (up_ok (good w) h)
  have E1 := bits_and_sign hw ha
  have E2 := bits_andNot_sign hw ha
  have V : rndN .up w a = signOf w a + roundF (fm w) .up (neg (fm w) a) (rung (fm w) a) := by unfold rndN; rw [hn]; rfl
  have hres := round_rung_le .up (neg (fm w) a) hn
  have E3 := bits_or_parts' hw (signOf_cases w a) (Nat.lt_of_le_of_lt hres (inf_lt_sw (fm w)))
  have HS : signOf w a = if neg (fm w) a = true then signN w else 0 := rfl
  have hG : goesF (fm w) .up (neg (fm w) a) (rung (fm w) a) = (!neg (fm w) a && !(wholeF (fm w) (rung (fm w) a)).2.1) := rfl
  have hR : roundF (fm w) .up (neg (fm w) a) (rung (fm w) a) = if goesF (fm w) .up (neg (fm w) a) (rung (fm w) a) = true then upF (fm w) (wholeF (fm w) (rung (fm w) a)).1 else (wholeF (fm w) (rung (fm w) a)).1 := rfl
  have NS : ((signN w : Int) == 0) = false := by rcases hw with rfl | rfl <;> decide
  have NT : ((signN w : Int) != 0) = true := by rcases hw with rfl | rfl <;> decide
  rw [V]
  unfold tupF at Wh
  clear hrl hml hres V ha hw hn
  generalize goesF (fm w) .up (neg (fm w) a) (rung (fm w) a) = g at *
  generalize roundF (fm w) .up (neg (fm w) a) (rung (fm w) a) = res at *
  generalize upF (fm w) (wholeF (fm w) (rung (fm w) a)).1 = u at *
  generalize oddF (fm w) (wholeF (fm w) (rung (fm w) a)).1 = od at *
  generalize (wholeF (fm w) (rung (fm w) a)).2.1 = ex at *
  generalize (wholeF (fm w) (rung (fm w) a)).2.2.1 = mo at *
  generalize (wholeF (fm w) (rung (fm w) a)).2.2.2 = hf at *
  generalize (wholeF (fm w) (rung (fm w) a)).1 = m at *
  generalize neg (fm w) a = n at *
  generalize signOf w a = s at *
  generalize rung (fm w) a = r at *
  generalize signN w = sn at *
  have Wh := hide Wh
  have Od := hide Od
  cases n <;> cases ex
  all_goals
    simp only [Bool.not_false, Bool.not_true, Bool.and_true, Bool.and_false, Bool.true_and, Bool.false_and, Bool.or_true, Bool.or_false, Bool.true_or, Bool.false_or, Bool.false_eq_true, if_true, if_false, reduceIte] at hG HS
    subst hG HS
    simp only [Bool.false_eq_true, if_true, if_false, reduceIte] at hR
    subst hR
    have Up := hide Up
    try simp only [show ((0 : Nat) : Int) = 0 from rfl] at E1
    try simp only [Nat.zero_add] at E3 ⊢
    try simp only [show ((0 : Nat) : Int) = 0 from rfl] at E3
    go_enter Tryd.func85, Tryd.ntmps85
    go_wp2_with (first | ((with_reducible refine (I.out _).mono ?_); rintro e w1 ⟨rfl, rfl⟩) | ((with_reducible refine (S.out _).mono ?_); rintro e w1 ⟨rfl, rfl⟩) | ((with_reducible refine (Wh.out _).mono ?_); rintro e w1 ⟨rfl, rfl⟩) | ((with_reducible refine (Od.out _).mono ?_); rintro e w1 ⟨rfl, rfl⟩) | ((with_reducible refine (Up.out (by first | trivial | rfl) _).mono ?_); rintro e w1 ⟨rfl, rfl⟩))
    go_ret
    exact ⟨rfl, rfl⟩

set_option maxRecDepth 100000 in
set_option maxHeartbeats 1000000 in
theorem rrounded_13x {w a : Nat} (hw : IsW w) (ha : a < 2 ^ w) (hn : na w a = true) (W : World) :
    Calls Tryd.prog 85 #[.int .u8 13, .int .i64 (w : Int), .int .u64 (a : Int)] W fun e W' => e = .returned (.int .u64 (rndN .up w a : Int)) ∧ W' = W := by
  have I := rIs_calls hw ha
  rw [hn] at I
  have I := hide I
  have N := hide (rNaN_calls hw)
  have V : rndN .up w a = nanN w := by unfold rndN; rw [hn]; rfl
  rw [V]
  clear V ha hw hn
  go_enter Tryd.func85, Tryd.ntmps85
  go_wp2_with (first | ((with_reducible refine (I.out _).mono ?_); rintro e w1 ⟨rfl, rfl⟩) | ((with_reducible refine (N.out _).mono ?_); rintro e w1 ⟨rfl, rfl⟩))
  go_ret
  exact ⟨rfl, rfl⟩

set_option maxRecDepth 100000 in
set_option maxHeartbeats 1000000 in
theorem rrounded_14 {w a : Nat} (hw : IsW w) (ha : a < 2 ^ w) (hn : na w a = false) (W : World) :
    Calls Tryd.prog 85 #[.int .u8 14, .int .i64 (w : Int), .int .u64 (a : Int)] W fun e W' => e = .returned (.int .u64 (rndN .down w a : Int)) ∧ W' = W := by
  have I := rIs_calls hw ha
  rw [hn] at I
  have I := hide I
  have S := hide (rsign_calls hw)
  have hrl : rung (fm w) a < signN w := rung_lt _ _
  have hml : (wholeF (fm w) (rung (fm w) a)).1 < signN w := Nat.lt_of_le_of_lt (whole_le (good w) _) hrl
  have Wh := rwhole_calls hw hrl
  have Od := rodd_calls hw hml
  have Up : goesF (fm w) .down (neg (fm w) a) (rung (fm w) a) = true → _ := fun h => rup_calls hw hml (up_ok (good w) h)
  have E1 := bits_and_sign hw ha
  have E2 := bits_andNot_sign hw ha
  have V : rndN .down w a = signOf w a + roundF (fm w) .down (neg (fm w) a) (rung (fm w) a) := by unfold rndN; rw [hn]; rfl
  have hres := round_rung_le .down (neg (fm w) a) hn
  have E3 := bits_or_parts' hw (signOf_cases w a) (Nat.lt_of_le_of_lt hres (inf_lt_sw (fm w)))
  have HS : signOf w a = if neg (fm w) a = true then signN w else 0 := rfl
  have hG : goesF (fm w) .down (neg (fm w) a) (rung (fm w) a) = (neg (fm w) a && !(wholeF (fm w) (rung (fm w) a)).2.1) := rfl
  have hR : roundF (fm w) .down (neg (fm w) a) (rung (fm w) a) = if goesF (fm w) .down (neg (fm w) a) (rung (fm w) a) = true then upF (fm w) (wholeF (fm w) (rung (fm w) a)).1 else (wholeF (fm w) (rung (fm w) a)).1 := rfl
  have NS : ((signN w : Int) == 0) = false := by rcases hw with rfl | rfl <;> decide
  have NT : ((signN w : Int) != 0) = true := by rcases hw with rfl | rfl <;> decide
  rw [V]
  unfold tupF at Wh
  clear hrl hml hres V ha hw hn
  generalize goesF (fm w) .down (neg (fm w) a) (rung (fm w) a) = g at *
  generalize roundF (fm w) .down (neg (fm w) a) (rung (fm w) a) = res at *
  generalize upF (fm w) (wholeF (fm w) (rung (fm w) a)).1 = u at *
  generalize oddF (fm w) (wholeF (fm w) (rung (fm w) a)).1 = od at *
  generalize (wholeF (fm w) (rung (fm w) a)).2.1 = ex at *
  generalize (wholeF (fm w) (rung (fm w) a)).2.2.1 = mo at *
  generalize (wholeF (fm w) (rung (fm w) a)).2.2.2 = hf at *
  generalize (wholeF (fm w) (rung (fm w) a)).1 = m at *
  generalize neg (fm w) a = n at *
  generalize signOf w a = s at *
  generalize rung (fm w) a = r at *
  generalize signN w = sn at *
  have Wh := hide Wh
  have Od := hide Od
  cases n <;> cases ex
  all_goals
    simp only [Bool.not_false, Bool.not_true, Bool.and_true, Bool.and_false, Bool.true_and, Bool.false_and, Bool.or_true, Bool.or_false, Bool.true_or, Bool.false_or, Bool.false_eq_true, if_true, if_false, reduceIte] at hG HS
    subst hG HS
    simp only [Bool.false_eq_true, if_true, if_false, reduceIte] at hR
    subst hR
    have Up := hide Up
    try simp only [show ((0 : Nat) : Int) = 0 from rfl] at E1
    try simp only [Nat.zero_add] at E3 ⊢
    try simp only [show ((0 : Nat) : Int) = 0 from rfl] at E3
    go_enter Tryd.func85, Tryd.ntmps85
    go_wp2_with (first | ((with_reducible refine (I.out _).mono ?_); rintro e w1 ⟨rfl, rfl⟩) | ((with_reducible refine (S.out _).mono ?_); rintro e w1 ⟨rfl, rfl⟩) | ((with_reducible refine (Wh.out _).mono ?_); rintro e w1 ⟨rfl, rfl⟩) | ((with_reducible refine (Od.out _).mono ?_); rintro e w1 ⟨rfl, rfl⟩) | ((with_reducible refine (Up.out (by first | trivial | rfl) _).mono ?_); rintro e w1 ⟨rfl, rfl⟩))
    go_ret
    exact ⟨rfl, rfl⟩

set_option maxRecDepth 100000 in
set_option maxHeartbeats 1000000 in
theorem rrounded_14x {w a : Nat} (hw : IsW w) (ha : a < 2 ^ w) (hn : na w a = true) (W : World) :
    Calls Tryd.prog 85 #[.int .u8 14, .int .i64 (w : Int), .int .u64 (a : Int)] W fun e W' => e = .returned (.int .u64 (rndN .down w a : Int)) ∧ W' = W := by
  have I := rIs_calls hw ha
  rw [hn] at I
  have I := hide I
  have N := hide (rNaN_calls hw)
  have V : rndN .down w a = nanN w := by unfold rndN; rw [hn]; rfl
  rw [V]
  clear V ha hw hn
  go_enter Tryd.func85, Tryd.ntmps85
  go_wp2_with (first | ((with_reducible refine (I.out _).mono ?_); rintro e w1 ⟨rfl, rfl⟩) | ((with_reducible refine (N.out _).mono ?_); rintro e w1 ⟨rfl, rfl⟩))
  go_ret
  exact ⟨rfl, rfl⟩

set_option maxRecDepth 100000 in
set_option maxHeartbeats 1000000 in
theorem rrounded_15 {w a : Nat} (hw : IsW w) (ha : a < 2 ^ w) (hn : na w a = false) (W : World) :
    Calls Tryd.prog 85 #[.int .u8 15, .int .i64 (w : Int), .int .u64 (a : Int)] W fun e W' => e = .returned (.int .u64 (rndN .zero w a : Int)) ∧ W' = W := by
  have I := rIs_calls hw ha
  rw [hn] at I
  have I := hide I
  have S := hide (rsign_calls hw)
  have hrl : rung (fm w) a < signN w := rung_lt _ _
  have hml : (wholeF (fm w) (rung (fm w) a)).1 < signN w := Nat.lt_of_le_of_lt (whole_le (good w) _) hrl
  have Wh := rwhole_calls hw hrl
  have Od := rodd_calls hw hml
  have Up : goesF (fm w) .zero (neg (fm w) a) (rung (fm w) a) = true → _ := fun h => rup_calls hw hml (up_ok (good w) h)
  have E1 := bits_and_sign hw ha
  have E2 := bits_andNot_sign hw ha
  have V : rndN .zero w a = signOf w a + roundF (fm w) .zero (neg (fm w) a) (rung (fm w) a) := by unfold rndN; rw [hn]; rfl
  have hres := round_rung_le .zero (neg (fm w) a) hn
  have E3 := bits_or_parts' hw (signOf_cases w a) (Nat.lt_of_le_of_lt hres (inf_lt_sw (fm w)))
  have HS : signOf w a = if neg (fm w) a = true then signN w else 0 := rfl
  have hG : goesF (fm w) .zero (neg (fm w) a) (rung (fm w) a) = false := rfl
  have hR : roundF (fm w) .zero (neg (fm w) a) (rung (fm w) a) = if goesF (fm w) .zero (neg (fm w) a) (rung (fm w) a) = true then upF (fm w) (wholeF (fm w) (rung (fm w) a)).1 else (wholeF (fm w) (rung (fm w) a)).1 := rfl
  have NS : ((signN w : Int) == 0) = false := by rcases hw with rfl | rfl <;> decide
  have NT : ((signN w : Int) != 0) = true := by rcases hw with rfl | rfl <;> decide
  rw [V]
  unfold tupF at Wh
  clear hrl hml hres V ha hw hn
  generalize goesF (fm w) .zero (neg (fm w) a) (rung (fm w) a) = g at *
  generalize roundF (fm w) .zero (neg (fm w) a) (rung (fm w) a) = res at *
  generalize upF (fm w) (wholeF (fm w) (rung (fm w) a)).1 = u at *
  generalize oddF (fm w) (wholeF (fm w) (rung (fm w) a)).1 = od at *
  generalize (wholeF (fm w) (rung (fm w) a)).2.1 = ex at *
  generalize (wholeF (fm w) (rung (fm w) a)).2.2.1 = mo at *
  generalize (wholeF (fm w) (rung (fm w) a)).2.2.2 = hf at *
  generalize (wholeF (fm w) (rung (fm w) a)).1 = m at *
  generalize neg (fm w) a = n at *
  generalize signOf w a = s at *
  generalize rung (fm w) a = r at *
  generalize signN w = sn at *
  have Wh := hide Wh
  have Od := hide Od
  cases n
  all_goals
    simp only [Bool.not_false, Bool.not_true, Bool.and_true, Bool.and_false, Bool.true_and, Bool.false_and, Bool.or_true, Bool.or_false, Bool.true_or, Bool.false_or, Bool.false_eq_true, if_true, if_false, reduceIte] at hG HS
    subst hG HS
    simp only [Bool.false_eq_true, if_true, if_false, reduceIte] at hR
    subst hR
    have Up := hide Up
    try simp only [show ((0 : Nat) : Int) = 0 from rfl] at E1
    try simp only [Nat.zero_add] at E3 ⊢
    try simp only [show ((0 : Nat) : Int) = 0 from rfl] at E3
    go_enter Tryd.func85, Tryd.ntmps85
    go_wp2_with (first | ((with_reducible refine (I.out _).mono ?_); rintro e w1 ⟨rfl, rfl⟩) | ((with_reducible refine (S.out _).mono ?_); rintro e w1 ⟨rfl, rfl⟩) | ((with_reducible refine (Wh.out _).mono ?_); rintro e w1 ⟨rfl, rfl⟩) | ((with_reducible refine (Od.out _).mono ?_); rintro e w1 ⟨rfl, rfl⟩) | ((with_reducible refine (Up.out (by first | trivial | rfl) _).mono ?_); rintro e w1 ⟨rfl, rfl⟩))
    go_ret
    exact ⟨rfl, rfl⟩

set_option maxRecDepth 100000 in
set_option maxHeartbeats 1000000 in
theorem rrounded_15x {w a : Nat} (hw : IsW w) (ha : a < 2 ^ w) (hn : na w a = true) (W : World) :
    Calls Tryd.prog 85 #[.int .u8 15, .int .i64 (w : Int), .int .u64 (a : Int)] W fun e W' => e = .returned (.int .u64 (rndN .zero w a : Int)) ∧ W' = W := by
  have I := rIs_calls hw ha
  rw [hn] at I
  have I := hide I
  have N := hide (rNaN_calls hw)
  have V : rndN .zero w a = nanN w := by unfold rndN; rw [hn]; rfl
  rw [V]
  clear V ha hw hn
  go_enter Tryd.func85, Tryd.ntmps85
  go_wp2_with (first | ((with_reducible refine (I.out _).mono ?_); rintro e w1 ⟨rfl, rfl⟩) | ((with_reducible refine (N.out _).mono ?_); rintro e w1 ⟨rfl, rfl⟩))
  go_ret
  exact ⟨rfl, rfl⟩

set_option maxRecDepth 100000 in
set_option maxHeartbeats 1000000 in
theorem rrounded_16 {w a : Nat} (hw : IsW w) (ha : a < 2 ^ w) (hn : na w a = false) (W : World) :
    Calls Tryd.prog 85 #[.int .u8 16, .int .i64 (w : Int), .int .u64 (a : Int)] W fun e W' => e = .returned (.int .u64 (rndN .even w a : Int)) ∧ W' = W := by
  have I := rIs_calls hw ha
  rw [hn] at I
  have I := hide I
  have S := hide (rsign_calls hw)
  have hrl : rung (fm w) a < signN w := rung_lt _ _
  have hml : (wholeF (fm w) (rung (fm w) a)).1 < signN w := Nat.lt_of_le_of_lt (whole_le (good w) _) hrl
  have Wh := rwhole_calls hw hrl
  have Od := rodd_calls hw hml
  have Up : goesF (fm w) .even (neg (fm w) a) (rung (fm w) a) = true → _ := fun h => rup_calls hw hml (up_ok (good w) h)
  have E1 := bits_and_sign hw ha
  have E2 := bits_andNot_sign hw ha
  have V : rndN .even w a = signOf w a + roundF (fm w) .even (neg (fm w) a) (rung (fm w) a) := by unfold rndN; rw [hn]; rfl
  have hres := round_rung_le .even (neg (fm w) a) hn
  have E3 := bits_or_parts' hw (signOf_cases w a) (Nat.lt_of_le_of_lt hres (inf_lt_sw (fm w)))
  have HS : signOf w a = if neg (fm w) a = true then signN w else 0 := rfl
  have hG : goesF (fm w) .even (neg (fm w) a) (rung (fm w) a) = ((wholeF (fm w) (rung (fm w) a)).2.2.1 || ((wholeF (fm w) (rung (fm w) a)).2.2.2 && oddF (fm w) (wholeF (fm w) (rung (fm w) a)).1)) := rfl
  have hR : roundF (fm w) .even (neg (fm w) a) (rung (fm w) a) = if goesF (fm w) .even (neg (fm w) a) (rung (fm w) a) = true then upF (fm w) (wholeF (fm w) (rung (fm w) a)).1 else (wholeF (fm w) (rung (fm w) a)).1 := rfl
  have NS : ((signN w : Int) == 0) = false := by rcases hw with rfl | rfl <;> decide
  have NT : ((signN w : Int) != 0) = true := by rcases hw with rfl | rfl <;> decide
  rw [V]
  unfold tupF at Wh
  clear hrl hml hres V ha hw hn
  generalize goesF (fm w) .even (neg (fm w) a) (rung (fm w) a) = g at *
  generalize roundF (fm w) .even (neg (fm w) a) (rung (fm w) a) = res at *
  generalize upF (fm w) (wholeF (fm w) (rung (fm w) a)).1 = u at *
  generalize oddF (fm w) (wholeF (fm w) (rung (fm w) a)).1 = od at *
  generalize (wholeF (fm w) (rung (fm w) a)).2.1 = ex at *
  generalize (wholeF (fm w) (rung (fm w) a)).2.2.1 = mo at *
  generalize (wholeF (fm w) (rung (fm w) a)).2.2.2 = hf at *
  generalize (wholeF (fm w) (rung (fm w) a)).1 = m at *
  generalize neg (fm w) a = n at *
  generalize signOf w a = s at *
  generalize rung (fm w) a = r at *
  generalize signN w = sn at *
  have Wh := hide Wh
  have Od := hide Od
  cases n <;> cases mo <;> cases hf <;> cases od
  all_goals
    simp only [Bool.not_false, Bool.not_true, Bool.and_true, Bool.and_false, Bool.true_and, Bool.false_and, Bool.or_true, Bool.or_false, Bool.true_or, Bool.false_or, Bool.false_eq_true, if_true, if_false, reduceIte] at hG HS
    subst hG HS
    simp only [Bool.false_eq_true, if_true, if_false, reduceIte] at hR
    subst hR
    have Up := hide Up
    try simp only [show ((0 : Nat) : Int) = 0 from rfl] at E1
    try simp only [Nat.zero_add] at E3 ⊢
    try simp only [show ((0 : Nat) : Int) = 0 from rfl] at E3
    go_enter Tryd.func85, Tryd.ntmps85
    go_wp2_with (first | ((with_reducible refine (I.out _).mono ?_); rintro e w1 ⟨rfl, rfl⟩) | ((with_reducible refine (S.out _).mono ?_); rintro e w1 ⟨rfl, rfl⟩) | ((with_reducible refine (Wh.out _).mono ?_); rintro e w1 ⟨rfl, rfl⟩) | ((with_reducible refine (Od.out _).mono ?_); rintro e w1 ⟨rfl, rfl⟩) | ((with_reducible refine (Up.out (by first | trivial | rfl) _).mono ?_); rintro e w1 ⟨rfl, rfl⟩))
    go_ret
    exact ⟨rfl, rfl⟩

set_option maxRecDepth 100000 in
set_option maxHeartbeats 1000000 in
theorem rrounded_16x {w a : Nat} (hw : IsW w) (ha : a < 2 ^ w) (hn : na w a = true) (W : World) :
    Calls Tryd.prog 85 #[.int .u8 16, .int .i64 (w : Int), .int .u64 (a : Int)] W fun e W' => e = .returned (.int .u64 (rndN .even w a : Int)) ∧ W' = W := by
  have I := rIs_calls hw ha
  rw [hn] at I
  have I := hide I
  have N := hide (rNaN_calls hw)
  have V : rndN .even w a = nanN w := by unfold rndN; rw [hn]; rfl
  rw [V]
  clear V ha hw hn
  go_enter Tryd.func85, Tryd.ntmps85
  go_wp2_with (first | ((with_reducible refine (I.out _).mono ?_); rintro e w1 ⟨rfl, rfl⟩) | ((with_reducible refine (N.out _).mono ?_); rintro e w1 ⟨rfl, rfl⟩))
  go_ret
  exact ⟨rfl, rfl⟩

theorem wide_run {a : Nat} (ha : a < 2 ^ 32) (W : World) : ∃ x : Nat, ∃ W' : World, (convert 91 68 (.float .f32 a)).run Tryd.prog W = .ok (.float .f64 x) W' ∧ Wor 32 a x ∧ (W' = W ∨ W' = W.drew) := by
  cases hn : na 32 a with
  | false =>
    refine ⟨worthN 32 a, W, wide_num _ _ _ isSome54 Tryd.underlying68 a hn W, ⟨?_, fun h => (by rw [hn] at h; cases h), fun _ => rfl⟩, .inl rfl⟩
    have h1 : rung Ieee.single a ≤ Ieee.single.infRung := na_false hn
    have := prom_le h1
    have hsw := inf_lt_sw Ieee.double
    exact Ieee.double.word_lt _ (by omega)
  | true =>
    have T := tape64 (q := .nanConv .f64 a) (fun t => rfl) W
    exact ⟨_, W.drew, conv_nan _ _ _ .f32 .f64 (by decide) isSome54 Tryd.underlying68 a _ _ (read_nan good_single (na_true hn)) W, ⟨T.2, fun _ => T.1, fun h => (by rw [hn] at h; cases h)⟩, .inr rfl⟩
theorem narrow_run {x : Nat} (hf : Fits 32 x) (W : World) : ∃ r : Nat, ∃ W' : World, (convert 68 91 (.float .f64 x)).run Tryd.prog W = .ok (.float .f32 r) W' ∧ Bk 32 x r ∧ (W' = W ∨ W' = W.drew) := by
  cases hn : na 64 x with
  | false => exact ⟨back 32 x, W, narrow_num _ _ _ isSome44 Tryd.underlying91 x hn hf W, ⟨back_lt x, fun h => (by rw [hn] at h; cases h), fun _ => rfl⟩, .inl rfl⟩
  | true =>
    have T := tape32 (q := .nanConv .f32 x) (fun t => rfl) W
    exact ⟨_, W.drew, conv_nan _ _ _ .f64 .f32 (by decide) isSome44 Tryd.underlying91 x _ _ (read_nan good_double (na_true hn)) W, ⟨T.2, fun _ => T.1, fun h => (by rw [hn] at h; cases h)⟩, .inr rfl⟩

set_option maxRecDepth 100000 in
set_option maxHeartbeats 1000000 in
theorem rroot32 {a : Nat} (ha : a < 2 ^ 32) (W : World) :
    Calls Tryd.prog 84 #[.int .i64 32, .int .u64 (a : Int)] W fun e W' => e = .returned (.int .u64 (rootN 32 a : Int)) ∧ Below W.heap.size W W' := by
  have F := from32
  have G := bits32
  have hw : IsW 32 := .inl rfl
  have E1 : IntKind.u32.wrap (a : Int) = (a : Int) := by rw [IntKind.wrap_u32]; omega
  obtain ⟨x, W1, hr, hx, hW⟩ := wide_run ha W
  have Hx := hide hx
  have HB := hide (below_or hW)
  have Q := hide (@Sqrt_calls)
  have C := hide (@rclean_calls 32)
  simp only [show ((32 : Nat) : Int) = 32 from rfl] at C
  have HW := hide hw
  clear hx hW ha hw
  go_enter Tryd.func84, Tryd.ntmps84
  go_wp2_with (first | simp only [hr] | ((with_reducible refine (Q.out Hx.out.lt _).mono ?_); rintro e w1 ⟨y, rfl, hy, hb⟩; have Hy := hide hy; have HB := hide (below_two HB.out hb); obtain ⟨r, w2, hrun, hr2, hw2⟩ := narrow_run (Sq.fits HW.out Hx.out hy) w1; have Hr := hide hr2; have HB := hide (below_two HB.out (below_or hw2)); have E3 : IntKind.u64.wrap (r : Int) = (r : Int) := (by have := hr2.lt; rw [IntKind.wrap_u64]; omega); clear hy hb hr2 hw2) | simp only [hrun] | ((with_reducible refine (C.out HW.out Hr.out.lt _).mono ?_); rintro e w3 ⟨rfl, rfl⟩))
  go_ret
  exact ⟨by rw [← root_of HW.out Hx.out Hy.out Hr.out]; rfl, HB.out⟩

set_option maxRecDepth 100000 in
set_option maxHeartbeats 1000000 in
theorem rroot64 {a : Nat} (ha : a < 2 ^ 64) (W : World) :
    Calls Tryd.prog 84 #[.int .i64 64, .int .u64 (a : Int)] W fun e W' => e = .returned (.int .u64 (rootN 64 a : Int)) ∧ Below W.heap.size W W' := by
  have F := from64
  have G := bits64
  have hw : IsW 64 := .inr rfl
  have HB := hide (Below.refl W.heap.size W)
  have Q := hide (Sqrt_calls ha)
  have C := hide (@rclean_calls 64)
  simp only [show ((64 : Nat) : Int) = 64 from rfl] at C
  have HW := hide hw
  have Hx := hide (show Wor 64 a a from ⟨ha, fun h => h, fun _ => rfl⟩)
  clear ha hw
  go_enter Tryd.func84, Tryd.ntmps84
  go_wp2_with (first | ((with_reducible refine (Q.out _).mono ?_); rintro e w1 ⟨y, rfl, hy, hb⟩; have Hy := hide hy; have HB := hide (below_two HB.out hb); clear hy hb) | ((with_reducible refine (C.out HW.out Hy.out.lt _).mono ?_); rintro e w3 ⟨rfl, rfl⟩))
  go_ret
  exact ⟨by rw [← root_of (w := 64) HW.out Hx.out Hy.out ⟨Hy.out.lt, fun h => h, fun _ => rfl⟩]; rfl, HB.out⟩

theorem rroot_calls {w a : Nat} (hw : IsW w) (ha : a < 2 ^ w) (W : World) :
    Calls Tryd.prog 84 #[.int .i64 (w : Int), .int .u64 (a : Int)] W fun e W' => e = .returned (.int .u64 (rootN w a : Int)) ∧ Below W.heap.size W W' := by
  rcases hw with rfl | rfl
  · exact rroot32 ha W
  · exact rroot64 ha W

set_option maxRecDepth 100000 in
set_option maxHeartbeats 1000000 in
theorem rone_10 {w a : Nat} (hw : IsW w) (ha : a < 2 ^ w) (W : World) :
    Calls Tryd.prog 37 #[.int .u8 10, .int .i64 (w : Int), .int .u64 (a : Int)] W fun e W' => e = .returned (pairV (one 10 w a)) ∧ Below W.heap.size W W' := by
  have Wd := rWidth_calls w
  have Fa := rFits_calls w a
  have ka := okW_of hw ha
  rw [okW_parts, Bool.and_eq_true] at ka
  rw [ka.1] at Wd
  rw [ka.2] at Fa
  have Wd := hide Wd
  have Fa := hide Fa
  clear ka
  have HB := hide (Below.refl W.heap.size W)
  have S := hide (rsign_calls hw)
  have E1 := bits_andNot_sign hw ha
  clear ha hw
  go_enter Tryd.func37, Tryd.ntmps37
  go_wp2_with (first | ((with_reducible refine (Wd.out _).mono ?_); rintro e w1 ⟨rfl, rfl⟩) | ((with_reducible refine (Fa.out _).mono ?_); rintro e w1 ⟨rfl, rfl⟩) | ((with_reducible refine (S.out _).mono ?_); rintro e w1 ⟨rfl, rfl⟩))
  refine bodyPost_ret (v := .tuple #[.int .u64 ((rung (fm w) a) : Nat), .int .i64 0]) (by simp [results, Tryd.results37, go_sem]) rfl ?_
  exact ⟨rfl, HB.out⟩

set_option maxRecDepth 100000 in
set_option maxHeartbeats 1000000 in
theorem rone_11 {w a : Nat} (hw : IsW w) (ha : a < 2 ^ w) (W : World) :
    Calls Tryd.prog 37 #[.int .u8 11, .int .i64 (w : Int), .int .u64 (a : Int)] W fun e W' => e = .returned (pairV (one 11 w a)) ∧ Below W.heap.size W W' := by
  have Wd := rWidth_calls w
  have Fa := rFits_calls w a
  have ka := okW_of hw ha
  rw [okW_parts, Bool.and_eq_true] at ka
  rw [ka.1] at Wd
  rw [ka.2] at Fa
  have Wd := hide Wd
  have Fa := hide Fa
  clear ka
  have HB := hide (Below.refl W.heap.size W)
  have S := hide (rsign_calls hw)
  have E1 := bits_xor_sign hw ha
  clear ha hw
  go_enter Tryd.func37, Tryd.ntmps37
  go_wp2_with (first | ((with_reducible refine (Wd.out _).mono ?_); rintro e w1 ⟨rfl, rfl⟩) | ((with_reducible refine (Fa.out _).mono ?_); rintro e w1 ⟨rfl, rfl⟩) | ((with_reducible refine (S.out _).mono ?_); rintro e w1 ⟨rfl, rfl⟩))
  refine bodyPost_ret (v := .tuple #[.int .u64 ((flip w a) : Nat), .int .i64 0]) (by simp [results, Tryd.results37, go_sem]) rfl ?_
  exact ⟨rfl, HB.out⟩

set_option maxRecDepth 100000 in
set_option maxHeartbeats 1000000 in
theorem rone_12 {w a : Nat} (hw : IsW w) (ha : a < 2 ^ w) (W : World) :
    Calls Tryd.prog 37 #[.int .u8 12, .int .i64 (w : Int), .int .u64 (a : Int)] W fun e W' => e = .returned (pairV (one 12 w a)) ∧ Below W.heap.size W W' := by
  have Wd := rWidth_calls w
  have Fa := rFits_calls w a
  have ka := okW_of hw ha
  rw [okW_parts, Bool.and_eq_true] at ka
  rw [ka.1] at Wd
  rw [ka.2] at Fa
  have Wd := hide Wd
  have Fa := hide Fa
  clear ka
  have HB := hide (Below.refl W.heap.size W)
  have R := hide (rroot_calls hw ha)
  clear ha hw
  go_enter Tryd.func37, Tryd.ntmps37
  go_wp2_with (first | ((with_reducible refine (Wd.out _).mono ?_); rintro e w1 ⟨rfl, rfl⟩) | ((with_reducible refine (Fa.out _).mono ?_); rintro e w1 ⟨rfl, rfl⟩) | ((with_reducible refine (R.out _).mono ?_); rintro e w1 ⟨rfl, hb⟩; have HB := hide (below_two HB.out hb); clear hb))
  refine bodyPost_ret (v := .tuple #[.int .u64 ((rootN w a) : Nat), .int .i64 0]) (by simp [results, Tryd.results37, go_sem]) rfl ?_
  exact ⟨rfl, HB.out⟩

theorem rrnd_13 {w a : Nat} (hw : IsW w) (ha : a < 2 ^ w) (W : World) :
    Calls Tryd.prog 85 #[.int .u8 13, .int .i64 (w : Int), .int .u64 (a : Int)] W fun e W' => e = .returned (.int .u64 (rndN .up w a : Int)) ∧ W' = W := by
  cases hn : na w a with
  | true => exact rrounded_13x hw ha hn W
  | false => exact rrounded_13 hw ha hn W
set_option maxRecDepth 100000 in
set_option maxHeartbeats 1000000 in
theorem rone_13 {w a : Nat} (hw : IsW w) (ha : a < 2 ^ w) (W : World) :
    Calls Tryd.prog 37 #[.int .u8 13, .int .i64 (w : Int), .int .u64 (a : Int)] W fun e W' => e = .returned (pairV (one 13 w a)) ∧ Below W.heap.size W W' := by
  have Wd := rWidth_calls w
  have Fa := rFits_calls w a
  have ka := okW_of hw ha
  rw [okW_parts, Bool.and_eq_true] at ka
  rw [ka.1] at Wd
  rw [ka.2] at Fa
  have Wd := hide Wd
  have Fa := hide Fa
  clear ka
  have HB := hide (Below.refl W.heap.size W)
  have R := hide (rrnd_13 hw ha)
  clear ha hw
  go_enter Tryd.func37, Tryd.ntmps37
  go_wp2_with (first | ((with_reducible refine (Wd.out _).mono ?_); rintro e w1 ⟨rfl, rfl⟩) | ((with_reducible refine (Fa.out _).mono ?_); rintro e w1 ⟨rfl, rfl⟩) | ((with_reducible refine (R.out _).mono ?_); rintro e w1 ⟨rfl, rfl⟩))
  refine bodyPost_ret (v := .tuple #[.int .u64 ((rndN .up w a) : Nat), .int .i64 0]) (by simp [results, Tryd.results37, go_sem]) rfl ?_
  exact ⟨rfl, HB.out⟩

theorem rrnd_14 {w a : Nat} (hw : IsW w) (ha : a < 2 ^ w) (W : World) :
    Calls Tryd.prog 85 #[.int .u8 14, .int .i64 (w : Int), .int .u64 (a : Int)] W fun e W' => e = .returned (.int .u64 (rndN .down w a : Int)) ∧ W' = W := by
  cases hn : na w a with
  | true => exact rrounded_14x hw ha hn W
  | false => exact rrounded_14 hw ha hn W
set_option maxRecDepth 100000 in
set_option maxHeartbeats 1000000 in
theorem rone_14 {w a : Nat} (hw : IsW w) (ha : a < 2 ^ w) (W : World) :
    Calls Tryd.prog 37 #[.int .u8 14, .int .i64 (w : Int), .int .u64 (a : Int)] W fun e W' => e = .returned (pairV (one 14 w a)) ∧ Below W.heap.size W W' := by
  have Wd := rWidth_calls w
  have Fa := rFits_calls w a
  have ka := okW_of hw ha
  rw [okW_parts, Bool.and_eq_true] at ka
  rw [ka.1] at Wd
  rw [ka.2] at Fa
  have Wd := hide Wd
  have Fa := hide Fa
  clear ka
  have HB := hide (Below.refl W.heap.size W)
  have R := hide (rrnd_14 hw ha)
  clear ha hw
  go_enter Tryd.func37, Tryd.ntmps37
  go_wp2_with (first | ((with_reducible refine (Wd.out _).mono ?_); rintro e w1 ⟨rfl, rfl⟩) | ((with_reducible refine (Fa.out _).mono ?_); rintro e w1 ⟨rfl, rfl⟩) | ((with_reducible refine (R.out _).mono ?_); rintro e w1 ⟨rfl, rfl⟩))
  refine bodyPost_ret (v := .tuple #[.int .u64 ((rndN .down w a) : Nat), .int .i64 0]) (by simp [results, Tryd.results37, go_sem]) rfl ?_
  exact ⟨rfl, HB.out⟩

theorem rrnd_15 {w a : Nat} (hw : IsW w) (ha : a < 2 ^ w) (W : World) :
    Calls Tryd.prog 85 #[.int .u8 15, .int .i64 (w : Int), .int .u64 (a : Int)] W fun e W' => e = .returned (.int .u64 (rndN .zero w a : Int)) ∧ W' = W := by
  cases hn : na w a with
  | true => exact rrounded_15x hw ha hn W
  | false => exact rrounded_15 hw ha hn W
set_option maxRecDepth 100000 in
set_option maxHeartbeats 1000000 in
theorem rone_15 {w a : Nat} (hw : IsW w) (ha : a < 2 ^ w) (W : World) :
    Calls Tryd.prog 37 #[.int .u8 15, .int .i64 (w : Int), .int .u64 (a : Int)] W fun e W' => e = .returned (pairV (one 15 w a)) ∧ Below W.heap.size W W' := by
  have Wd := rWidth_calls w
  have Fa := rFits_calls w a
  have ka := okW_of hw ha
  rw [okW_parts, Bool.and_eq_true] at ka
  rw [ka.1] at Wd
  rw [ka.2] at Fa
  have Wd := hide Wd
  have Fa := hide Fa
  clear ka
  have HB := hide (Below.refl W.heap.size W)
  have R := hide (rrnd_15 hw ha)
  clear ha hw
  go_enter Tryd.func37, Tryd.ntmps37
  go_wp2_with (first | ((with_reducible refine (Wd.out _).mono ?_); rintro e w1 ⟨rfl, rfl⟩) | ((with_reducible refine (Fa.out _).mono ?_); rintro e w1 ⟨rfl, rfl⟩) | ((with_reducible refine (R.out _).mono ?_); rintro e w1 ⟨rfl, rfl⟩))
  refine bodyPost_ret (v := .tuple #[.int .u64 ((rndN .zero w a) : Nat), .int .i64 0]) (by simp [results, Tryd.results37, go_sem]) rfl ?_
  exact ⟨rfl, HB.out⟩

theorem rrnd_16 {w a : Nat} (hw : IsW w) (ha : a < 2 ^ w) (W : World) :
    Calls Tryd.prog 85 #[.int .u8 16, .int .i64 (w : Int), .int .u64 (a : Int)] W fun e W' => e = .returned (.int .u64 (rndN .even w a : Int)) ∧ W' = W := by
  cases hn : na w a with
  | true => exact rrounded_16x hw ha hn W
  | false => exact rrounded_16 hw ha hn W
set_option maxRecDepth 100000 in
set_option maxHeartbeats 1000000 in
theorem rone_16 {w a : Nat} (hw : IsW w) (ha : a < 2 ^ w) (W : World) :
    Calls Tryd.prog 37 #[.int .u8 16, .int .i64 (w : Int), .int .u64 (a : Int)] W fun e W' => e = .returned (pairV (one 16 w a)) ∧ Below W.heap.size W W' := by
  have Wd := rWidth_calls w
  have Fa := rFits_calls w a
  have ka := okW_of hw ha
  rw [okW_parts, Bool.and_eq_true] at ka
  rw [ka.1] at Wd
  rw [ka.2] at Fa
  have Wd := hide Wd
  have Fa := hide Fa
  clear ka
  have HB := hide (Below.refl W.heap.size W)
  have R := hide (rrnd_16 hw ha)
  clear ha hw
  go_enter Tryd.func37, Tryd.ntmps37
  go_wp2_with (first | ((with_reducible refine (Wd.out _).mono ?_); rintro e w1 ⟨rfl, rfl⟩) | ((with_reducible refine (Fa.out _).mono ?_); rintro e w1 ⟨rfl, rfl⟩) | ((with_reducible refine (R.out _).mono ?_); rintro e w1 ⟨rfl, rfl⟩))
  refine bodyPost_ret (v := .tuple #[.int .u64 ((rndN .even w a) : Nat), .int .i64 0]) (by simp [results, Tryd.results37, go_sem]) rfl ?_
  exact ⟨rfl, HB.out⟩

set_option maxRecDepth 100000 in
set_option maxHeartbeats 1000000 in
theorem rone_else {w a : Nat} (hw : IsW w) (op : Int) (ha : a < 2 ^ w) (h0 : 0 ≤ op) (ho : op < 10 ∨ 16 < op) (W : World) :
    Calls Tryd.prog 37 #[.int .u8 op, .int .i64 (w : Int), .int .u64 (a : Int)] W fun e W' => e = .returned (pairV (one op.toNat w a)) ∧ W' = W := by
  rw [one_none (by omega)]
  have Wd := rWidth_calls w
  have Fa := rFits_calls w a
  have ka := okW_of hw ha
  rw [okW_parts, Bool.and_eq_true] at ka
  rw [ka.1] at Wd
  rw [ka.2] at Fa
  have Wd := hide Wd
  have Fa := hide Fa
  clear ka
  have n10 : (op == 10) = false := by simp; omega
  have n11 : (op == 11) = false := by simp; omega
  have n12 : (op == 12) = false := by simp; omega
  have n13 : (op == 13) = false := by simp; omega
  have n14 : (op == 14) = false := by simp; omega
  have n15 : (op == 15) = false := by simp; omega
  have n16 : (op == 16) = false := by simp; omega
  clear ha hw ho h0
  go_enter Tryd.func37, Tryd.ntmps37
  go_wp2_with (first | ((with_reducible refine (Wd.out _).mono ?_); rintro e w1 ⟨rfl, rfl⟩) | ((with_reducible refine (Fa.out _).mono ?_); rintro e w1 ⟨rfl, rfl⟩))
  refine bodyPost_ret (v := .tuple #[.int .u64 0, .int .i64 2]) (by simp [results, Tryd.results37, go_sem]) rfl ?_
  exact ⟨rfl, rfl⟩

set_option maxRecDepth 100000 in
set_option maxHeartbeats 1000000 in
theorem rone_bad (op w : Int) (a : Nat) (h : okW w a = false) (W : World) :
    Calls Tryd.prog 37 #[.int .u8 op, .int .i64 w, .int .u64 (a : Int)] W fun e W' => e = .returned (pairV (0, 2)) ∧ W' = W := by
  rw [okW_parts] at h
  have Wd := rWidth_calls w
  have Fa := rFits_calls w a
  generalize wdI w = x at *
  generalize ftI w a = y at *
  have Wd := hide Wd
  have Fa := hide Fa
  cases x <;> cases y <;> first | (exfalso; revert h; decide) | clear h
  all_goals
    go_enter Tryd.func37, Tryd.ntmps37
    go_wp2_with (first | ((with_reducible refine (Wd.out _).mono ?_); rintro e w1 ⟨rfl, rfl⟩) | ((with_reducible refine (Fa.out _).mono ?_); rintro e w1 ⟨rfl, rfl⟩))
    refine bodyPost_ret (v := .tuple #[.int .u64 0, .int .i64 2]) (by simp [results, Tryd.results37, go_sem]) rfl ?_
    exact ⟨rfl, rfl⟩

theorem ROne_calls {w a : Nat} (hw : IsW w) (ha : a < 2 ^ w) (op : Nat) (W : World) :
    Calls Tryd.prog 37 #[.int .u8 (op : Int), .int .i64 (w : Int), .int .u64 (a : Int)] W fun e W' => e = .returned (pairV (one op w a)) ∧ Below W.heap.size W W' := by
  by_cases hk : op < 10 ∨ 16 < op
  · exact (rone_else hw (op : Int) ha (by omega) (by omega) W).mono fun e W' h => ⟨h.1, by rw [h.2]; exact Below.refl _ _⟩
  · rcases (show op = 10 ∨ op = 11 ∨ op = 12 ∨ op = 13 ∨ op = 14 ∨ op = 15 ∨ op = 16 by omega) with rfl | rfl | rfl | rfl | rfl | rfl | rfl
    · exact rone_10 hw ha W
    · exact rone_11 hw ha W
    · exact rone_12 hw ha W
    · exact rone_13 hw ha W
    · exact rone_14 hw ha W
    · exact rone_15 hw ha W
    · exact rone_16 hw ha W
end Go.Proofs.YtpeckiaimellmaaDoor.F
