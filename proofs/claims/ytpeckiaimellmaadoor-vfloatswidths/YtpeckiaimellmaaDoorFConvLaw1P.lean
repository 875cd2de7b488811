/-
  The document's other, Promote, Demote; works; ConvsCuts, ConvsFloats, ConvsWidths.
-/
import Derived.Test.YtpeckiaimellmaaDoorFConvRCutP
import Derived.DataShut
set_option linter.unusedVariables false
set_option linter.unusedSimpArgs false
namespace Go.Proofs.YtpeckiaimellmaaDoor.F.C
open Go.RowKit Flo

/-! other -/

section
variable {fr to a m r : Nat} {ng : Bool} {e : Int}
set_option maxHeartbeats 1000000 in
theorem rother_none
    (I : Hide (∀ W, Calls Tryd.prog 112 #[.int .i64 (fr : Int), .int .u64 (a : Int)] W fun e W' => e = .returned (.bool true) ∧ W' = W))
    (N : Hide (∀ W, Calls Tryd.prog 113 #[.int .i64 (to : Int)] W fun e W' => e = .returned (.int .u64 (r : Int)) ∧ W' = W)) (W : World) :
    Calls Tryd.prog 97 #[.int .i64 (fr : Int), .int .i64 (to : Int), .int .u64 (a : Int)] W fun e W' => e = .returned (.int .u64 (r : Int)) ∧ W' = W := by
  go_enter Tryd.func97, Tryd.ntmps97
  go_wp2_with (first | ((with_reducible refine (I.out _).mono ?_); rintro e w1 ⟨rfl, rfl⟩) | ((with_reducible refine (N.out _).mono ?_); rintro e w1 ⟨rfl, rfl⟩))
  go_ret
  exact ⟨rfl, rfl⟩
set_option maxHeartbeats 1000000 in
theorem rother_fin
    (I : Hide (∀ W, Calls Tryd.prog 112 #[.int .i64 (fr : Int), .int .u64 (a : Int)] W fun e W' => e = .returned (.bool false) ∧ W' = W))
    (P : Hide (∀ W, Calls Tryd.prog 129 #[.int .i64 (fr : Int), .int .u64 (a : Int)] W fun r W' => r = .returned (.tuple #[.bool ng, .int .u64 (m : Int), .int .i64 e, .bool true]) ∧ W' = W))
    (R : Hide (∀ W, Calls Tryd.prog 92 #[.int .i64 (to : Int), .bool ng, .int .u64 (m : Int), .int .i64 e] W fun x W' => x = .returned (.int .u64 (r : Int)) ∧ W' = W)) (W : World) :
    Calls Tryd.prog 97 #[.int .i64 (fr : Int), .int .i64 (to : Int), .int .u64 (a : Int)] W fun e W' => e = .returned (.int .u64 (r : Int)) ∧ W' = W := by
  go_enter Tryd.func97, Tryd.ntmps97
  go_wp2_with (first | ((with_reducible refine (I.out _).mono ?_); rintro e w1 ⟨rfl, rfl⟩) | ((with_reducible refine (P.out _).mono ?_); rintro e w1 ⟨rfl, rfl⟩) | ((with_reducible refine (R.out _).mono ?_); rintro e w1 ⟨rfl, rfl⟩))
  go_ret
  exact ⟨rfl, rfl⟩
set_option maxHeartbeats 1000000 in
theorem rother_inf32 {g : Nat}
    (I : Hide (∀ W, Calls Tryd.prog 112 #[.int .i64 (fr : Int), .int .u64 (a : Int)] W fun e W' => e = .returned (.bool false) ∧ W' = W))
    (P : Hide (∀ W, Calls Tryd.prog 129 #[.int .i64 (fr : Int), .int .u64 (a : Int)] W fun r W' => r = .returned (.tuple #[.bool ng, .int .u64 0, .int .i64 0, .bool false]) ∧ W' = W))
    (R : Hide (∀ W, Calls Tryd.prog 92 #[.int .i64 32, .bool ng, .int .u64 0, .int .i64 0] W fun x W' => x = .returned (.int .u64 (g : Int)) ∧ W' = W))
    (Z : bits .or .u64 (g : Int) 2139095040 = (r : Int)) (W : World) :
    Calls Tryd.prog 97 #[.int .i64 (fr : Int), .int .i64 32, .int .u64 (a : Int)] W fun e W' => e = .returned (.int .u64 (r : Int)) ∧ W' = W := by
  have F := hide (rform_calls (w := 32) (.inl rfl))
  simp only [show ((32 : Nat) : Int) = 32 from rfl, show ((fb 32 : Nat) : Int) = 23 from rfl, show ((bi 32 : Nat) : Int) = 127 from rfl] at F
  go_enter Tryd.func97, Tryd.ntmps97
  go_wp2_with (first | ((with_reducible refine (I.out _).mono ?_); rintro e w1 ⟨rfl, rfl⟩) | ((with_reducible refine (P.out _).mono ?_); rintro e w1 ⟨rfl, rfl⟩) | ((with_reducible refine (F.out _).mono ?_); rintro e w1 ⟨rfl, rfl⟩) | ((with_reducible refine (R.out _).mono ?_); rintro e w1 ⟨rfl, rfl⟩))
  go_ret
  exact ⟨rfl, rfl⟩
set_option maxHeartbeats 1000000 in
theorem rother_inf64 {g : Nat}
    (I : Hide (∀ W, Calls Tryd.prog 112 #[.int .i64 (fr : Int), .int .u64 (a : Int)] W fun e W' => e = .returned (.bool false) ∧ W' = W))
    (P : Hide (∀ W, Calls Tryd.prog 129 #[.int .i64 (fr : Int), .int .u64 (a : Int)] W fun r W' => r = .returned (.tuple #[.bool ng, .int .u64 0, .int .i64 0, .bool false]) ∧ W' = W))
    (R : Hide (∀ W, Calls Tryd.prog 92 #[.int .i64 64, .bool ng, .int .u64 0, .int .i64 0] W fun x W' => x = .returned (.int .u64 (g : Int)) ∧ W' = W))
    (Z : bits .or .u64 (g : Int) 9218868437227405312 = (r : Int)) (W : World) :
    Calls Tryd.prog 97 #[.int .i64 (fr : Int), .int .i64 64, .int .u64 (a : Int)] W fun e W' => e = .returned (.int .u64 (r : Int)) ∧ W' = W := by
  have F := hide (rform_calls (w := 64) (.inr rfl))
  simp only [show ((64 : Nat) : Int) = 64 from rfl, show ((fb 64 : Nat) : Int) = 52 from rfl, show ((bi 64 : Nat) : Int) = 1023 from rfl] at F
  go_enter Tryd.func97, Tryd.ntmps97
  go_wp2_with (first | ((with_reducible refine (I.out _).mono ?_); rintro e w1 ⟨rfl, rfl⟩) | ((with_reducible refine (P.out _).mono ?_); rintro e w1 ⟨rfl, rfl⟩) | ((with_reducible refine (F.out _).mono ?_); rintro e w1 ⟨rfl, rfl⟩) | ((with_reducible refine (R.out _).mono ?_); rintro e w1 ⟨rfl, rfl⟩))
  go_ret
  exact ⟨rfl, rfl⟩
end

def othN (fr to a : Nat) : Nat :=
  if na fr a then nanN to else if rung (fm fr) a < (fm fr).infRung then (fm to).word (neg (fm fr) a) (rungOf (fm to) (pm fr a) (pe fr a)) else (fm to).word (neg (fm fr) a) (fm to).infRung

theorem rother_calls {fr to a : Nat} (hf : IsW fr) (ht : IsW to) (ha : a < 2 ^ fr) (W : World) :
    Calls Tryd.prog 97 #[.int .i64 (fr : Int), .int .i64 (to : Int), .int .u64 (a : Int)] W fun e W' => e = .returned (.int .u64 (othN fr to a : Int)) ∧ W' = W := by
  have I := hide (rIs_calls hf ha)
  unfold othN
  cases hn : na fr a with
  | true =>
    rw [hn] at I
    rw [if_pos rfl]
    exact rother_none I (hide (rNaN_calls ht)) W
  | false =>
    rw [hn] at I
    rw [if_neg (by decide)]
    have P := hide (rparts_calls hf ha)
    have hle := na_false hn
    rcases Nat.lt_or_ge (rung (fm fr) a) (fm fr).infRung with c | c
    · rw [if_pos c]
      rw [partsV_num c] at P
      obtain ⟨p1, p2, p3⟩ := pe_bounds hf c
      exact rother_fin I P (hide (rround_calls ht (pm64 hf) p1 (by omega) p3 _)) W
    · rw [if_neg (by omega)]
      rw [partsV_end (by omega)] at P
      rcases ht with rfl | rfl
      · have R := hide (rround_calls (w := 32) (m := 0) (e := 0) (.inl rfl) (by decide) (by decide) (by decide) (by decide) (neg (fm fr) a))
        refine rother_inf32 I P R ?_ W
        cases neg (fm fr) a <;> decide +kernel
      · have R := hide (rround_calls (w := 64) (m := 0) (e := 0) (.inr rfl) (by decide) (by decide) (by decide) (by decide) (neg (fm fr) a))
        refine rother_inf64 I P R ?_ W
        cases neg (fm fr) a <;> decide +kernel

theorem oth_prom (a : Nat) : othN 32 64 a = promN a := by
  unfold othN promN worthN
  cases hn : na 32 a with
  | true => rfl
  | false =>
    simp only [Bool.false_eq_true, if_false, if_true]
    obtain ⟨k, e1, e2⟩ := parts_mval (w := 32) (a := a) (.inl rfl)
    have hle := na_false hn
    rcases Nat.lt_or_ge (rung (fm 32) a) (fm 32).infRung with c | c
    · rw [if_pos c]
      rw [fm32] at c e1 e2 ⊢
      unfold prom
      rw [if_pos c, e2, rung_scale, e1]
      rfl
    · rw [if_neg (by omega)]
      rw [fm32] at c hle ⊢
      rw [show rung Ieee.single a = Ieee.single.infRung by omega, prom_inf]
      rfl
theorem oth_dem (a : Nat) : othN 64 32 a = demN a := by
  unfold othN demN back
  cases hn : na 64 a with
  | true => rfl
  | false =>
    simp only [Bool.false_eq_true, if_false, if_true]
    obtain ⟨k, e1, e2⟩ := parts_mval (w := 64) (a := a) (.inr rfl)
    have hle := na_false hn
    rcases Nat.lt_or_ge (rung (fm 64) a) (fm 64).infRung with c | c
    · rw [if_pos c]
      rw [fm64] at c e1 e2 ⊢
      unfold dem
      rw [if_pos c, e2, rung_scale, e1]
      rfl
    · rw [if_neg (by omega)]
      rw [fm64] at c hle ⊢
      unfold dem
      rw [if_neg (by omega)]
      rfl

set_option maxHeartbeats 1000000 in
theorem rPromote_calls (a : Nat) (ha : a < 2 ^ 64) (W : World) :
    Calls Tryd.prog 48 #[.int .u64 (a : Int)] W fun e W' => e = .returned (prV (promF a)) ∧ W' = W := by
  have A := hide (rFits_calls (w := 32) (.inl rfl) a)
  simp only [show ((32 : Nat) : Int) = 32 from rfl, show mostN 32 = 4294967295 from rfl] at A
  by_cases c : a ≤ 4294967295
  · rw [decide_eq_true c] at A
    have O := hide (rother_calls (fr := 32) (to := 64) (a := a) (.inl rfl) (.inr rfl) (by omega))
    rw [oth_prom] at O
    simp only [show ((32 : Nat) : Int) = 32 from rfl, show ((64 : Nat) : Int) = 64 from rfl] at O
    have E := hide (show promF a = (promN a, 0) by simp [promF, c])
    clear c ha
    generalize promN a = r at *
    go_enter Tryd.func48, Tryd.ntmps48
    go_wp2_with (first | ((with_reducible refine (A.out _).mono ?_); rintro e w1 ⟨rfl, rfl⟩) | ((with_reducible refine (O.out _).mono ?_); rintro e w1 ⟨rfl, rfl⟩))
    refine bodyPost_ret (v := .tuple #[.int .u64 (r : Int), .int .i64 0]) (by simp [results, Tryd.results48, go_sem]) rfl ?_
    exact ⟨by rw [E.out]; rfl, rfl⟩
  · rw [decide_eq_false c] at A
    have E := hide (show promF a = (0, 2) by simp [promF, c])
    clear c ha
    go_enter Tryd.func48, Tryd.ntmps48
    go_wp2_with (first | ((with_reducible refine (A.out _).mono ?_); rintro e w1 ⟨rfl, rfl⟩))
    refine bodyPost_ret (v := .tuple #[.int .u64 0, .int .i64 2]) (by simp [results, Tryd.results48, go_sem]) rfl ?_
    exact ⟨by rw [E.out]; rfl, rfl⟩
set_option maxHeartbeats 1000000 in
theorem rDemote_calls (a : Nat) (ha : a < 2 ^ 64) (W : World) :
    Calls Tryd.prog 50 #[.int .u64 (a : Int)] W fun e W' => e = .returned (prV (demN a, 0)) ∧ W' = W := by
  have O := hide (rother_calls (fr := 64) (to := 32) (a := a) (.inr rfl) (.inl rfl) ha)
  rw [oth_dem] at O
  simp only [show ((32 : Nat) : Int) = 32 from rfl, show ((64 : Nat) : Int) = 64 from rfl] at O
  clear ha
  generalize demN a = r at *
  go_enter Tryd.func50, Tryd.ntmps50
  go_wp2_with ((with_reducible refine (O.out _).mono ?_); rintro e w1 ⟨rfl, rfl⟩)
  refine bodyPost_ret (v := .tuple #[.int .u64 (r : Int), .int .i64 0]) (by simp [results, Tryd.results50, go_sem]) rfl ?_
  exact ⟨rfl, rfl⟩
end Go.Proofs.YtpeckiaimellmaaDoor.F.C
