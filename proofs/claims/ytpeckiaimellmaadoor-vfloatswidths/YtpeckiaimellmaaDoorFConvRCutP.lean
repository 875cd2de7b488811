/-
  The document's cut, Cut, CutHeld, Float, Promote, Demote.
-/
import Derived.Test.YtpeckiaimellmaaDoorFConvRoundP
import Derived.Test.YtpeckiaimellmaaDoorFConvCodeP
set_option linter.unusedVariables false
set_option linter.unusedSimpArgs false
namespace Go.Proofs.YtpeckiaimellmaaDoor.F.C
open Go.RowKit Flo

/-! cut -/

section
variable {fr to a m n b r : Nat} {sg ng : Bool} {e : Int}
set_option maxHeartbeats 1000000 in
theorem rcut_none
    (I : Hide (∀ W, Calls Tryd.prog 112 #[.int .i64 (fr : Int), .int .u64 (a : Int)] W fun e W' => e = .returned (.bool true) ∧ W' = W)) (W : World) :
    Calls Tryd.prog 90 #[.int .i64 (fr : Int), .int .i64 (to : Int), .bool sg, .int .u64 (a : Int)] W fun e W' => e = .returned (.tuple #[.int .u64 0, .bool false]) ∧ W' = W := by
  go_enter Tryd.func90, Tryd.ntmps90
  go_wp2_with ((with_reducible refine (I.out _).mono ?_); rintro e w1 ⟨rfl, rfl⟩)
  refine bodyPost_ret (v := .tuple #[.int .u64 0, .bool false]) (by simp [results, Tryd.results90, go_sem]) rfl ?_
  exact ⟨rfl, rfl⟩
set_option maxHeartbeats 1000000 in
theorem rcut_not {ok fits : Bool} (hf : (ok && fits) = false)
    (I : Hide (∀ W, Calls Tryd.prog 112 #[.int .i64 (fr : Int), .int .u64 (a : Int)] W fun e W' => e = .returned (.bool false) ∧ W' = W))
    (P : Hide (∀ W, Calls Tryd.prog 129 #[.int .i64 (fr : Int), .int .u64 (a : Int)] W fun r W' => r = .returned (.tuple #[.bool ng, .int .u64 (m : Int), .int .i64 e, .bool ok]) ∧ W' = W))
    (H : Hide (∀ W, Calls Tryd.prog 130 #[.int .u64 (m : Int), .int .i64 e] W fun r W' => r = .returned (.tuple #[.int .u64 (n : Int), .bool fits]) ∧ W' = W))
    (M : Hide (∀ W, Calls Tryd.prog 131 #[.int .i64 (to : Int), .bool sg, .bool ng] W fun r W' => r = .returned (.int .u64 (b : Int)) ∧ W' = W))
    (N : Hide (∀ W, Calls Tryd.prog 93 #[.int .i64 (to : Int), .bool ng, .int .u64 (b : Int)] W fun x W' => x = .returned (.int .u64 (r : Int)) ∧ W' = W)) (W : World) :
    Calls Tryd.prog 90 #[.int .i64 (fr : Int), .int .i64 (to : Int), .bool sg, .int .u64 (a : Int)] W fun e W' => e = .returned (.tuple #[.int .u64 (r : Int), .bool false]) ∧ W' = W := by
  cases ok
  · clear hf
    go_enter Tryd.func90, Tryd.ntmps90
    go_wp2_with (first | ((with_reducible refine (I.out _).mono ?_); rintro e w1 ⟨rfl, rfl⟩) | ((with_reducible refine (P.out _).mono ?_); rintro e w1 ⟨rfl, rfl⟩) | ((with_reducible refine (H.out _).mono ?_); rintro e w1 ⟨rfl, rfl⟩) | ((with_reducible refine (M.out _).mono ?_); rintro e w1 ⟨rfl, rfl⟩) | ((with_reducible refine (N.out _).mono ?_); rintro e w1 ⟨rfl, rfl⟩))
    refine bodyPost_ret (v := .tuple #[.int .u64 (r : Int), .bool false]) (by simp [results, Tryd.results90, go_sem]) rfl ?_
    exact ⟨rfl, rfl⟩
  · rw [Bool.true_and] at hf
    subst hf
    go_enter Tryd.func90, Tryd.ntmps90
    go_wp2_with (first | ((with_reducible refine (I.out _).mono ?_); rintro e w1 ⟨rfl, rfl⟩) | ((with_reducible refine (P.out _).mono ?_); rintro e w1 ⟨rfl, rfl⟩) | ((with_reducible refine (H.out _).mono ?_); rintro e w1 ⟨rfl, rfl⟩) | ((with_reducible refine (M.out _).mono ?_); rintro e w1 ⟨rfl, rfl⟩) | ((with_reducible refine (N.out _).mono ?_); rintro e w1 ⟨rfl, rfl⟩))
    refine bodyPost_ret (v := .tuple #[.int .u64 (r : Int), .bool false]) (by simp [results, Tryd.results90, go_sem]) rfl ?_
    exact ⟨rfl, rfl⟩
set_option maxHeartbeats 1000000 in
theorem rcut_beyond (hn : b < n)
    (I : Hide (∀ W, Calls Tryd.prog 112 #[.int .i64 (fr : Int), .int .u64 (a : Int)] W fun e W' => e = .returned (.bool false) ∧ W' = W))
    (P : Hide (∀ W, Calls Tryd.prog 129 #[.int .i64 (fr : Int), .int .u64 (a : Int)] W fun r W' => r = .returned (.tuple #[.bool ng, .int .u64 (m : Int), .int .i64 e, .bool true]) ∧ W' = W))
    (H : Hide (∀ W, Calls Tryd.prog 130 #[.int .u64 (m : Int), .int .i64 e] W fun r W' => r = .returned (.tuple #[.int .u64 (n : Int), .bool true]) ∧ W' = W))
    (M : Hide (∀ W, Calls Tryd.prog 131 #[.int .i64 (to : Int), .bool sg, .bool ng] W fun r W' => r = .returned (.int .u64 (b : Int)) ∧ W' = W))
    (N : Hide (∀ W, Calls Tryd.prog 93 #[.int .i64 (to : Int), .bool ng, .int .u64 (b : Int)] W fun x W' => x = .returned (.int .u64 (r : Int)) ∧ W' = W)) (W : World) :
    Calls Tryd.prog 90 #[.int .i64 (fr : Int), .int .i64 (to : Int), .bool sg, .int .u64 (a : Int)] W fun e W' => e = .returned (.tuple #[.int .u64 (r : Int), .bool false]) ∧ W' = W := by
  have d1 : decide ((b : Int) < (n : Int)) = true := decide_eq_true (by omega)
  go_enter Tryd.func90, Tryd.ntmps90
  go_wp2_with (first | ((with_reducible refine (I.out _).mono ?_); rintro e w1 ⟨rfl, rfl⟩) | ((with_reducible refine (P.out _).mono ?_); rintro e w1 ⟨rfl, rfl⟩) | ((with_reducible refine (H.out _).mono ?_); rintro e w1 ⟨rfl, rfl⟩) | ((with_reducible refine (M.out _).mono ?_); rintro e w1 ⟨rfl, rfl⟩) | ((with_reducible refine (N.out _).mono ?_); rintro e w1 ⟨rfl, rfl⟩))
  refine bodyPost_ret (v := .tuple #[.int .u64 (r : Int), .bool false]) (by simp [results, Tryd.results90, go_sem]) rfl ?_
  exact ⟨rfl, rfl⟩
set_option maxHeartbeats 1000000 in
theorem rcut_fits (hn : n ≤ b)
    (I : Hide (∀ W, Calls Tryd.prog 112 #[.int .i64 (fr : Int), .int .u64 (a : Int)] W fun e W' => e = .returned (.bool false) ∧ W' = W))
    (P : Hide (∀ W, Calls Tryd.prog 129 #[.int .i64 (fr : Int), .int .u64 (a : Int)] W fun r W' => r = .returned (.tuple #[.bool ng, .int .u64 (m : Int), .int .i64 e, .bool true]) ∧ W' = W))
    (H : Hide (∀ W, Calls Tryd.prog 130 #[.int .u64 (m : Int), .int .i64 e] W fun r W' => r = .returned (.tuple #[.int .u64 (n : Int), .bool true]) ∧ W' = W))
    (M : Hide (∀ W, Calls Tryd.prog 131 #[.int .i64 (to : Int), .bool sg, .bool ng] W fun r W' => r = .returned (.int .u64 (b : Int)) ∧ W' = W))
    (N : Hide (∀ W, Calls Tryd.prog 93 #[.int .i64 (to : Int), .bool ng, .int .u64 (n : Int)] W fun x W' => x = .returned (.int .u64 (r : Int)) ∧ W' = W)) (W : World) :
    Calls Tryd.prog 90 #[.int .i64 (fr : Int), .int .i64 (to : Int), .bool sg, .int .u64 (a : Int)] W fun e W' => e = .returned (.tuple #[.int .u64 (r : Int), .bool true]) ∧ W' = W := by
  have d1 : decide ((b : Int) < (n : Int)) = false := decide_eq_false (by omega)
  have d2 : ¬ b < n := by omega
  clear hn
  go_enter Tryd.func90, Tryd.ntmps90
  go_wp2_with (first | ((with_reducible refine (I.out _).mono ?_); rintro e w1 ⟨rfl, rfl⟩) | ((with_reducible refine (P.out _).mono ?_); rintro e w1 ⟨rfl, rfl⟩) | ((with_reducible refine (H.out _).mono ?_); rintro e w1 ⟨rfl, rfl⟩) | ((with_reducible refine (M.out _).mono ?_); rintro e w1 ⟨rfl, rfl⟩) | ((with_reducible refine (N.out _).mono ?_); rintro e w1 ⟨rfl, rfl⟩))
  refine bodyPost_ret (v := .tuple #[.int .u64 (r : Int), .bool true]) (by simp [results, Tryd.results90, go_sem]) rfl ?_
  exact ⟨rfl, rfl⟩
end

theorem pe_bounds {w a : Nat} (hw : IsW w) (h : rung (fm w) a < (fm w).infRung) : -1100 ≤ pe w a ∧ pe w a ≤ 1000 ∧ pe w a + (pm w a).log2 ≤ 1023 := by
  have hl : (pm w a).log2 ≤ fb w := by
    by_cases h0 : pm w a = 0
    · rw [h0]; simp
    · have := (Nat.log2_lt h0).2 (pm_lt (w := w) (a := a)); omega
  rcases hw with rfl | rfl
  · have hb : (fm 32).binade = 8388608 := by decide
    rw [show (fm 32).infRung = 2139095040 by decide] at h
    rw [show fb 32 = 23 from rfl] at hl
    unfold pe
    rw [hb, show ((bi 32 : Nat) : Int) = 127 from rfl, show ((fb 32 : Nat) : Int) = 23 from rfl]
    split <;> omega
  · have hb : (fm 64).binade = 4503599627370496 := by decide
    rw [show (fm 64).infRung = 9218868437227405312 by decide] at h
    rw [show fb 64 = 52 from rfl] at hl
    unfold pe
    rw [hb, show ((bi 64 : Nat) : Int) = 1023 from rfl, show ((fb 64 : Nat) : Int) = 52 from rfl]
    split <;> omega

theorem partsV_num {w a : Nat} (h : rung (fm w) a < (fm w).infRung) : partsV w a = .tuple #[.bool (neg (fm w) a), .int .u64 (pm w a : Int), .int .i64 (pe w a), .bool true] := by unfold partsV; rw [if_pos h]
theorem partsV_end {w a : Nat} (h : rung (fm w) a = (fm w).infRung) : partsV w a = .tuple #[.bool (neg (fm w) a), .int .u64 ((0 : Nat) : Int), .int .i64 0, .bool false] := by unfold partsV; rw [if_neg (by omega)]; rfl
theorem pm64 {w a : Nat} (hw : IsW w) : pm w a < 2 ^ 64 := Nat.lt_of_lt_of_le pm_lt (Nat.pow_le_pow_right (by decide) (by rcases hw with rfl | rfl <;> decide))

theorem rcut_calls {fr to a : Nat} (hf : IsW fr) (ht : IsW to) (sg : Bool) (ha : a < 2 ^ fr) (W : World) :
    Calls Tryd.prog 90 #[.int .i64 (fr : Int), .int .i64 (to : Int), .bool sg, .int .u64 (a : Int)] W fun e W' => e = .returned (prB (cutN fr to sg a)) ∧ W' = W := by
  have I := hide (rIs_calls hf ha)
  cases hn : na fr a with
  | true =>
    rw [hn] at I
    rw [show cutN fr to sg a = (0, false) by unfold cutN; rw [hn]; rfl]
    exact rcut_none I W
  | false =>
    rw [hn] at I
    have P := hide (rparts_calls hf ha)
    have hle := na_false hn
    have M := hide (rmost_calls ht sg (neg (fm fr) a))
    obtain ⟨b1, b2, _⟩ := bnd_le ht sg (neg (fm fr) a)
    have NB := hide (rnumber_calls ht (neg (fm fr) a) b1 b2)
    rcases Nat.lt_or_ge (rung (fm fr) a) (fm fr).infRung with c | c
    · rw [partsV_num c] at P
      obtain ⟨p1, p2, p3⟩ := pe_bounds hf c
      have hm := pm64 (a := a) hf
      have H := hide (rwhole_calls (e := pe fr a) hm (by omega))
      rw [cut_fin hf ht c]
      unfold cutR
      cases hw : wholeR (pm fr a) (pe fr a) with
      | mk n fits =>
        rw [hw] at H
        cases fits
        · exact rcut_not (ok := true) (fits := false) rfl I P H M NB W
        · by_cases d : n ≤ bndN to sg (neg (fm fr) a)
          · have NN := hide (rnumber_calls (n := n) ht (neg (fm fr) a) (by omega) (by omega))
            have := rcut_fits d I P H M NN W
            simpa [prB, d] using this
          · have := rcut_beyond (by omega) I P H M NB W
            simpa [prB, d] using this
    · have ce : rung (fm fr) a = (fm fr).infRung := by omega
      rw [partsV_end ce] at P
      have H := hide (rwhole_calls (m := 0) (e := 0) (by decide) (by decide))
      rw [cut_inf hf ht ce]
      exact rcut_not (ok := false) (fits := true) rfl I P H M NB W

set_option maxHeartbeats 1000000 in
theorem rCutHeld_calls (fr to : Int) (sg : Bool) (a : Nat) (ha : a < 2 ^ 64) (W : World) :
    Calls Tryd.prog 44 #[.int .i64 fr, .int .i64 to, .bool sg, .int .u64 (a : Int)] W fun e W' => e = .returned (prV (heldF fr to sg a)) ∧ W' = W := by
  have A := hide (rmay_calls fr to a ha)
  cases c : (okW fr a && isW to) with
  | false =>
    rw [c] at A
    have E := hide (show heldF fr to sg a = (0, 2) by unfold heldF okC; rw [c]; rfl)
    clear c ha
    go_enter Tryd.func44, Tryd.ntmps44
    go_wp2_with ((with_reducible refine (A.out _).mono ?_); rintro e w1 ⟨rfl, rfl⟩)
    refine bodyPost_ret (v := .tuple #[.int .u64 0, .int .i64 2]) (by simp [results, Tryd.results44, go_sem]) rfl ?_
    exact ⟨by rw [E.out]; rfl, rfl⟩
  | true =>
    rw [c] at A
    rw [Bool.and_eq_true] at c
    obtain ⟨f, rfl, hf, ha'⟩ := of_okW ha c.1
    obtain ⟨t, rfl, ht⟩ := of_isW c.2
    have E := hide (show heldF f t sg a = ((cutN f t sg a).1, 0) by simp [heldF, okC, c.1, c.2])
    have K := hide (rcut_calls hf ht sg ha')
    clear c ha ha' hf ht
    generalize cutN f t sg a = r at *
    obtain ⟨r1, r2⟩ := r
    simp only [prB] at K
    go_enter Tryd.func44, Tryd.ntmps44
    go_wp2_with (first | ((with_reducible refine (A.out _).mono ?_); rintro e w1 ⟨rfl, rfl⟩) | ((with_reducible refine (K.out _).mono ?_); rintro e w1 ⟨rfl, rfl⟩))
    refine bodyPost_ret (v := .tuple #[.int .u64 (r1 : Int), .int .i64 0]) (by simp [results, Tryd.results44, go_sem]) rfl ?_
    exact ⟨by rw [E.out]; rfl, rfl⟩

/-! Float -/

set_option maxHeartbeats 1000000 in
theorem rWorth_calls {w a : Nat} (hw : IsW w) (ha : a < 2 ^ w) (W : World) :
    Calls Tryd.prog 91 #[.int .i64 (w : Int), .int .u64 (a : Int)] W fun e W' => e = .returned (.int .i64 (valI w true a)) ∧ W' = W := by
  have M := hide (rMost_calls hw)
  rcases hw with rfl | rfl
  · simp only [show ((32 : Nat) : Int) = 32 from rfl, show ((mostN 32 : Nat) : Int) = 4294967295 from rfl] at M
    by_cases c : a ≤ 2147483647
    · have E : valI 32 true a = (a : Int) := by unfold valI negOf magOf sgn; simp [show ¬ (2147483648 ≤ a) by omega]
      have c1 : decide ((a : Int) ≤ 2147483647) = true := decide_eq_true (by omega)
      have E2 : wrap64 (a : Int) = (a : Int) := IntWalk.wrap64_in _ (by omega)
      rw [E]
      have hc := hide c
      clear c E ha E2
      go_enter Tryd.func91, Tryd.ntmps91
      go_wp2_with ((with_reducible refine (M.out _).mono ?_); rintro e w1 ⟨rfl, rfl⟩)
      go_ret
      exact ⟨congrArg (fun z => Ending.returned (.int .i64 z)) (IntWalk.wrap64_in _ (by have := hc.out; omega)), rfl⟩
    · have E : valI 32 true a = (a : Int) - 4294967296 := by unfold valI negOf magOf sgn; simp [show 2147483648 ≤ a by omega]; omega
      have c1 : decide ((a : Int) ≤ 2147483647) = false := decide_eq_false (by omega)
      have E1 : IntKind.u64.wrap (4294967295 - (a : Int)) = 4294967295 - (a : Int) := by rw [IntKind.wrap_u64]; omega
      have E2 : wrap64 (4294967295 - (a : Int)) = 4294967295 - (a : Int) := IntWalk.wrap64_in _ (by omega)
      have E3 : wrap64 (-(4294967295 - (a : Int))) = -(4294967295 - (a : Int)) := IntWalk.wrap64_in _ (by omega)
      have E4 : wrap64 (-(4294967295 - (a : Int)) - 1) = (a : Int) - 4294967296 := by rw [IntWalk.wrap64_in _ (by omega)]; omega
      have E3' : wrap64 ((a : Int) - 4294967295) = (a : Int) - 4294967295 := IntWalk.wrap64_in _ (by omega)
      have E4' : wrap64 ((a : Int) - 4294967295 - 1) = (a : Int) - 4294967296 := by rw [IntWalk.wrap64_in _ (by omega)]; omega
      rw [E]
      clear c E
      go_enter Tryd.func91, Tryd.ntmps91
      go_wp2_with ((with_reducible refine (M.out _).mono ?_); rintro e w1 ⟨rfl, rfl⟩)
      go_ret
      exact ⟨congrArg (fun z => Ending.returned (.int .i64 z)) (by omega), rfl⟩
  · simp only [show ((64 : Nat) : Int) = 64 from rfl, show ((mostN 64 : Nat) : Int) = 18446744073709551615 from rfl] at M
    by_cases c : a ≤ 9223372036854775807
    · have E : valI 64 true a = (a : Int) := by unfold valI negOf magOf sgn; simp [show ¬ (9223372036854775808 ≤ a) by omega]
      have c1 : decide ((a : Int) ≤ 9223372036854775807) = true := decide_eq_true (by omega)
      have E2 : wrap64 (a : Int) = (a : Int) := IntWalk.wrap64_in _ (by omega)
      rw [E]
      have hc := hide c
      clear c E ha E2
      go_enter Tryd.func91, Tryd.ntmps91
      go_wp2_with ((with_reducible refine (M.out _).mono ?_); rintro e w1 ⟨rfl, rfl⟩)
      go_ret
      exact ⟨congrArg (fun z => Ending.returned (.int .i64 z)) (IntWalk.wrap64_in _ (by have := hc.out; omega)), rfl⟩
    · have E : valI 64 true a = (a : Int) - 18446744073709551616 := by unfold valI negOf magOf sgn; simp [show 9223372036854775808 ≤ a by omega]; omega
      have c1 : decide ((a : Int) ≤ 9223372036854775807) = false := decide_eq_false (by omega)
      have E1 : IntKind.u64.wrap (18446744073709551615 - (a : Int)) = 18446744073709551615 - (a : Int) := by rw [IntKind.wrap_u64]; omega
      have E2 : wrap64 (18446744073709551615 - (a : Int)) = 18446744073709551615 - (a : Int) := IntWalk.wrap64_in _ (by omega)
      have E3 : wrap64 (-(18446744073709551615 - (a : Int))) = -(18446744073709551615 - (a : Int)) := IntWalk.wrap64_in _ (by omega)
      have E4 : wrap64 (-(18446744073709551615 - (a : Int)) - 1) = (a : Int) - 18446744073709551616 := by rw [IntWalk.wrap64_in _ (by omega)]; omega
      have E3' : wrap64 ((a : Int) - 18446744073709551615) = (a : Int) - 18446744073709551615 := IntWalk.wrap64_in _ (by omega)
      have E4' : wrap64 ((a : Int) - 18446744073709551615 - 1) = (a : Int) - 18446744073709551616 := by rw [IntWalk.wrap64_in _ (by omega)]; omega
      rw [E]
      clear c E
      go_enter Tryd.func91, Tryd.ntmps91
      go_wp2_with ((with_reducible refine (M.out _).mono ?_); rintro e w1 ⟨rfl, rfl⟩)
      go_ret
      exact ⟨congrArg (fun z => Ending.returned (.int .i64 z)) (by omega), rfl⟩

theorem val_neg {w a : Nat} (hw : IsW w) (ha : a < 2 ^ w) : decide (valI w true a < 0) = decide (2 ^ (w - 1) ≤ a) := by
  rcases hw with rfl | rfl
  · unfold valI negOf magOf sgn
    by_cases c : 2147483648 ≤ a
    · simp [c]; omega
    · simp [c]
  · unfold valI negOf magOf sgn
    by_cases c : 9223372036854775808 ≤ a
    · simp [c]; omega
    · simp [c]
theorem num_mag {w a : Nat} (hw : IsW w) (ha : a < 2 ^ w) (h : 2 ^ (w - 1) ≤ a) : numN w true a = 2 ^ w - a := by
  unfold numN
  rw [if_pos rfl]
  have := Nat.two_pow_pos (w - 1)
  exact Nat.mod_eq_of_lt (by omega)

set_option maxHeartbeats 1000000 in
theorem rFloat_calls (fr to : Int) (sg : Bool) (a : Nat) (ha : a < 2 ^ 64) (W : World) :
    Calls Tryd.prog 46 #[.int .i64 fr, .int .i64 to, .bool sg, .int .u64 (a : Int)] W fun e W' => e = .returned (prV (fltF fr to sg a)) ∧ W' = W := by
  have A := hide (rmay_calls fr to a ha)
  cases c : (okW fr a && isW to) with
  | false =>
    rw [c] at A
    have E := hide (show fltF fr to sg a = (0, 2) by unfold fltF okC; rw [c]; rfl)
    clear c ha
    go_enter Tryd.func46, Tryd.ntmps46
    go_wp2_with ((with_reducible refine (A.out _).mono ?_); rintro e w1 ⟨rfl, rfl⟩)
    refine bodyPost_ret (v := .tuple #[.int .u64 0, .int .i64 2]) (by simp [results, Tryd.results46, go_sem]) rfl ?_
    exact ⟨by rw [E.out]; rfl, rfl⟩
  | true =>
    rw [c] at A
    rw [Bool.and_eq_true] at c
    obtain ⟨f, rfl, hf, ha'⟩ := of_okW ha c.1
    obtain ⟨t, rfl, ht⟩ := of_isW c.2
    have E : fltF f t sg a = (fltN f t sg a, 0) := by simp [fltF, okC, c.1, c.2]
    have V := hide (rWorth_calls hf ha')
    have D := val_neg hf ha'
    have lg : ∀ m : Nat, m < 2 ^ 64 → (0 : Int) + m.log2 ≤ 1023 := fun m h => by
      by_cases h0 : m = 0
      · rw [h0]; decide
      · have := (Nat.log2_lt h0).2 h; omega
    have RP := hide (rround_calls (e := 0) ht ha (by decide) (by decide) (lg a ha) false)
    by_cases cn : (sg && decide (2 ^ (f - 1) ≤ a)) = true
    · have cn' := cn
      rw [Bool.and_eq_true] at cn'
      obtain ⟨rfl, hle⟩ := cn'
      have hle := of_decide_eq_true hle
      rw [decide_eq_true hle] at D
      have N := hide (rnumber_calls hf true (n := a) (by omega) ha)
      rw [num_mag hf ha' hle] at N
      have h64 : 2 ^ f - a < 2 ^ 64 := by have := pow_le hf; have := Nat.two_pow_pos (f - 1); omega
      have RN := hide (rround_calls (e := 0) ht h64 (by decide) (by decide) (lg _ h64) true)
      have ef : fltN f t true a = (fm t).word true (rungOf (fm t) (2 ^ f - a) 0) := by
        unfold fltN negOf magOf
        rw [cn]; rfl
      rw [ef] at E
      have E := hide E
      clear c ha ha' hf ht RP cn hle lg h64 ef
      generalize (fm t).word true (rungOf (fm t) (2 ^ f - a) 0) = r at *
      generalize 2 ^ f - a = g at *
      generalize valI f true a = v at *
      go_enter Tryd.func46, Tryd.ntmps46
      go_wp2_with (first | ((with_reducible refine (A.out _).mono ?_); rintro e w1 ⟨rfl, rfl⟩) | ((with_reducible refine (V.out _).mono ?_); rintro e w1 ⟨rfl, rfl⟩) | ((with_reducible refine (N.out _).mono ?_); rintro e w1 ⟨rfl, rfl⟩) | ((with_reducible refine (RN.out _).mono ?_); rintro e w1 ⟨rfl, rfl⟩))
      refine bodyPost_ret (v := .tuple #[.int .u64 (r : Int), .int .i64 0]) (by simp [results, Tryd.results46, go_sem]) rfl ?_
      exact ⟨by rw [E.out]; rfl, rfl⟩
    · have ef : fltN f t sg a = (fm t).word false (rungOf (fm t) a 0) := by
        unfold fltN negOf magOf
        rw [if_neg cn, show (sg && decide (2 ^ (f - 1) ≤ a)) = false by simpa using cn]
      rw [ef] at E
      have E := hide E
      have cn : (sg && decide (2 ^ (f - 1) ≤ a)) = false := by simpa using cn
      clear c ha ha' hf ht lg ef
      generalize (fm t).word false (rungOf (fm t) a 0) = r at *
      cases sg
      · clear D V cn
        go_enter Tryd.func46, Tryd.ntmps46
        go_wp2_with (first | ((with_reducible refine (A.out _).mono ?_); rintro e w1 ⟨rfl, rfl⟩) | ((with_reducible refine (RP.out _).mono ?_); rintro e w1 ⟨rfl, rfl⟩))
        refine bodyPost_ret (v := .tuple #[.int .u64 (r : Int), .int .i64 0]) (by simp [results, Tryd.results46, go_sem]) rfl ?_
        exact ⟨by rw [E.out]; rfl, rfl⟩
      · rw [Bool.true_and] at cn
        rw [cn] at D
        clear cn
        generalize valI f true a = v at *
        have D' : ¬ v < 0 := of_decide_eq_false D
        go_enter Tryd.func46, Tryd.ntmps46
        go_wp2_with (first | ((with_reducible refine (A.out _).mono ?_); rintro e w1 ⟨rfl, rfl⟩) | ((with_reducible refine (V.out _).mono ?_); rintro e w1 ⟨rfl, rfl⟩) | ((with_reducible refine (RP.out _).mono ?_); rintro e w1 ⟨rfl, rfl⟩))
        refine bodyPost_ret (v := .tuple #[.int .u64 (r : Int), .int .i64 0]) (by simp [results, Tryd.results46, go_sem]) rfl ?_
        exact ⟨by rw [E.out]; rfl, rfl⟩
end Go.Proofs.YtpeckiaimellmaaDoor.F.C
