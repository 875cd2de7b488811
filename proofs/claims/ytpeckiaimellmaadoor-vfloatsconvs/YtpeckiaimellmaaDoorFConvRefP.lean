/-
  The document's small functions of conversions: Most, Fits, Worth, form, size, most, number, may, parts, whole, shifted.
-/
import Derived.Test.YtpeckiaimellmaaDoorFConvSmallP
import Derived.Test.YtpeckiaimellmaaDoorFConvRMathP
import Derived.Test.YtpeckiaimellmaaDoorFFloRefsP
set_option linter.unusedVariables false
set_option linter.unusedSimpArgs false
namespace Go.Proofs.YtpeckiaimellmaaDoor.F.C
open Go.RowKit Flo

set_option maxHeartbeats 400000 in
theorem rMost_calls {w : Nat} (hw : IsW w) (W : World) :
    Calls Tryd.prog 41 #[.int .i64 (w : Int)] W fun e W' => e = .returned (.int .u64 (mostN w : Int)) ∧ W' = W := by
  rcases hw with rfl | rfl <;>
  · go_enter Tryd.func41, Tryd.ntmps41
    go_wp2
    go_ret
    exact ⟨rfl, rfl⟩

set_option maxHeartbeats 400000 in
theorem rFits_calls {w : Nat} (hw : IsW w) (a : Nat) (W : World) :
    Calls Tryd.prog 96 #[.int .i64 (w : Int), .int .u64 (a : Int)] W fun e W' => e = .returned (.bool (decide (a ≤ mostN w))) ∧ W' = W := by
  have M := hide (rMost_calls hw)
  generalize mostN w = m at *
  clear hw
  go_enter Tryd.func96, Tryd.ntmps96
  go_wp2_with ((with_reducible refine (M.out _).mono ?_); rintro e w1 ⟨rfl, rfl⟩)
  go_ret
  first | exact ⟨rfl, rfl⟩ | (refine ⟨?_, rfl⟩; congr 2; simp)

set_option maxHeartbeats 400000 in
theorem rform_calls {w : Nat} (hw : IsW w) (W : World) :
    Calls Tryd.prog 132 #[.int .i64 (w : Int)] W fun e W' => e = .returned (.tuple #[.int .i64 (fb w : Int), .int .i64 (bi w : Int)]) ∧ W' = W := by
  rcases hw with rfl | rfl
  · go_enter Tryd.func132, Tryd.ntmps132
    go_wp2
    refine bodyPost_ret (v := .tuple #[.int .i64 23, .int .i64 127]) (by simp [results, Tryd.results132, go_sem]) rfl ?_
    exact ⟨rfl, rfl⟩
  · go_enter Tryd.func132, Tryd.ntmps132
    go_wp2
    refine bodyPost_ret (v := .tuple #[.int .i64 52, .int .i64 1023]) (by simp [results, Tryd.results132, go_sem]) rfl ?_
    exact ⟨rfl, rfl⟩

set_option maxHeartbeats 400000 in
theorem rmost_calls {to : Nat} (hw : IsW to) (sg ng : Bool) (W : World) :
    Calls Tryd.prog 131 #[.int .i64 (to : Int), .bool sg, .bool ng] W fun e W' => e = .returned (.int .u64 (bndN to sg ng : Int)) ∧ W' = W := by
  have M := hide (rMost_calls hw)
  rcases hw with rfl | rfl
  · simp only [show ((32 : Nat) : Int) = 32 from rfl, show ((mostN 32 : Nat) : Int) = 4294967295 from rfl] at M
    cases sg <;> cases ng <;>
    · go_enter Tryd.func131, Tryd.ntmps131
      go_wp2_with ((with_reducible refine (M.out _).mono ?_); rintro e w1 ⟨rfl, rfl⟩)
      go_ret
      exact ⟨rfl, rfl⟩
  · simp only [show ((64 : Nat) : Int) = 64 from rfl, show ((mostN 64 : Nat) : Int) = 18446744073709551615 from rfl] at M
    cases sg <;> cases ng <;>
    · go_enter Tryd.func131, Tryd.ntmps131
      go_wp2_with ((with_reducible refine (M.out _).mono ?_); rintro e w1 ⟨rfl, rfl⟩)
      go_ret
      exact ⟨rfl, rfl⟩

theorem num_and {to n : Nat} (hw : IsW to) (hn : n ≤ 2 ^ to) (h64 : n < 2 ^ 64) : bits .and .u64 (IntKind.u64.wrap (0 - (n : Int))) (mostN to : Int) = (numN to true n : Int) := by
  have e : IntKind.u64.wrap (0 - (n : Int)) = (((2 ^ 64 - n) % 2 ^ 64 : Nat) : Int) := by rw [IntKind.wrap_u64]; omega
  rw [e, u64_and_nat _ _ (by omega) (by rcases hw with rfl | rfl <;> decide)]
  unfold mostN
  rw [Nat.and_two_pow_sub_one_eq_mod]
  unfold numN
  rw [if_pos rfl]
  rcases hw with rfl | rfl <;> omega

set_option maxHeartbeats 400000 in
theorem rnumber_calls {to n : Nat} (hw : IsW to) (ng : Bool) (hn : n ≤ 2 ^ to) (h64 : n < 2 ^ 64) (W : World) :
    Calls Tryd.prog 93 #[.int .i64 (to : Int), .bool ng, .int .u64 (n : Int)] W fun e W' => e = .returned (.int .u64 (numN to ng n : Int)) ∧ W' = W := by
  have M := hide (rMost_calls hw)
  have E := num_and hw hn h64
  have E' : IntKind.u64.wrap (-(n : Int)) = IntKind.u64.wrap (0 - (n : Int)) := by rw [Int.zero_sub]
  cases ng
  · clear E E' M
    go_enter Tryd.func93, Tryd.ntmps93
    go_wp2
    go_ret
    exact ⟨rfl, rfl⟩
  · rw [← E'] at E
    clear E'
    generalize mostN to = m at *
    generalize numN to true n = r at *
    clear hw hn h64
    go_enter Tryd.func93, Tryd.ntmps93
    go_wp2_with ((with_reducible refine (M.out _).mono ?_); rintro e w1 ⟨rfl, rfl⟩)
    go_ret
    exact ⟨rfl, rfl⟩

set_option maxHeartbeats 400000 in
theorem rmay_calls (fr to : Int) (a : Nat) (ha : a < 2 ^ 64) (W : World) :
    Calls Tryd.prog 89 #[.int .i64 fr, .int .i64 to, .int .u64 (a : Int)] W fun e W' => e = .returned (.bool (okW fr a && isW to)) ∧ W' = W := by
  have F32 := hide (rFits_calls (w := 32) (.inl rfl) a)
  have F64 := hide (rFits_calls (w := 64) (.inr rfl) a)
  simp only [show ((32 : Nat) : Int) = 32 from rfl, show mostN 32 = 4294967295 from rfl] at F32
  simp only [show ((64 : Nat) : Int) = 64 from rfl, show decide (a ≤ mostN 64) = true from decide_eq_true (by unfold mostN; omega)] at F64
  clear ha
  by_cases f1 : fr = 32
  · subst f1
    have E : okW 32 a = decide (a ≤ 4294967295) := by simp [okW]
    rw [E]
    generalize decide (a ≤ 4294967295) = b at *
    by_cases t1 : to = 32
    · subst t1
      go_enter Tryd.func89, Tryd.ntmps89
      go_wp2_with ((with_reducible refine (F32.out _).mono ?_); rintro e w1 ⟨rfl, rfl⟩)
      go_ret
      exact ⟨by simp [isW], rfl⟩
    · by_cases t2 : to = 64
      · subst t2
        go_enter Tryd.func89, Tryd.ntmps89
        go_wp2_with ((with_reducible refine (F32.out _).mono ?_); rintro e w1 ⟨rfl, rfl⟩)
        go_ret
        exact ⟨by simp [isW], rfl⟩
      · have e1 : (to == 32) = false := by simp [t1]
        have e2 : (to == 64) = false := by simp [t2]
        have e3 := hide (show isW to = false by simp [isW, t1, t2])
        clear t1 t2
        go_enter Tryd.func89, Tryd.ntmps89
        go_wp2_with ((with_reducible refine (F32.out _).mono ?_); rintro e w1 ⟨rfl, rfl⟩)
        go_ret
        exact ⟨by rw [e3.out, Bool.and_false]; rfl, rfl⟩
  · by_cases f2 : fr = 64
    · subst f2
      have E : okW 64 a = true := by simp [okW]
      rw [E]
      clear f1
      by_cases t1 : to = 32
      · subst t1
        go_enter Tryd.func89, Tryd.ntmps89
        go_wp2_with ((with_reducible refine (F64.out _).mono ?_); rintro e w1 ⟨rfl, rfl⟩)
        go_ret
        exact ⟨by simp [isW], rfl⟩
      · by_cases t2 : to = 64
        · subst t2
          go_enter Tryd.func89, Tryd.ntmps89
          go_wp2_with ((with_reducible refine (F64.out _).mono ?_); rintro e w1 ⟨rfl, rfl⟩)
          go_ret
          exact ⟨by simp [isW], rfl⟩
        · have e1 : (to == 32) = false := by simp [t1]
          have e2 : (to == 64) = false := by simp [t2]
          have e3 := hide (show isW to = false by simp [isW, t1, t2])
          clear t1 t2
          go_enter Tryd.func89, Tryd.ntmps89
          go_wp2_with ((with_reducible refine (F64.out _).mono ?_); rintro e w1 ⟨rfl, rfl⟩)
          go_ret
          exact ⟨by rw [e3.out, Bool.and_false]; rfl, rfl⟩
    · have e1 : (fr == 32) = false := by simp [f1]
      have e2 : (fr == 64) = false := by simp [f2]
      have e3 := hide (show okW fr a = false by simp [okW, f1, f2])
      clear f1 f2
      go_enter Tryd.func89, Tryd.ntmps89
      go_wp2_with (first | ((with_reducible refine (F64.out _).mono ?_); rintro e w1 ⟨rfl, rfl⟩) | ((with_reducible refine (F32.out _).mono ?_); rintro e w1 ⟨rfl, rfl⟩))
      go_ret
      exact ⟨by rw [e3.out, Bool.false_and]; rfl, rfl⟩

set_option maxHeartbeats 400000 in
theorem rsize_calls {m : Nat} (hm : m < 2 ^ 64) (W : World) :
    Calls Tryd.prog 133 #[.int .u64 (m : Int)] W fun e W' => e = .returned (.int .i64 (bl m : Int)) ∧ W' = W := by
  go_enter Tryd.func133, Tryd.ntmps133
  go_wp2
  go_loop [0, 3] (fun x y => ∃ q n : Nat, x = .int .u64 (q : Int) ∧ y = .int .i64 (n : Int) ∧ q < 2 ^ 64 ∧ n + bl q = bl m) (fun x y => (intOf x).toNat)
  case atStart => exact ⟨m, 0, rfl, rfl, hm, by omega⟩
  case round =>
    obtain ⟨q, n, rfl, rfl, hq, hn⟩ := hrel
    have hle := bl_le hm
    by_cases c : q = 0
    · subst c
      have e : n = bl m := by have : bl 0 = 0 := rfl; omega
      subst e
      clear hn hle hq
      go_wp2
      go_ret
      exact ⟨rfl, rfl⟩
    · have hb := bl_half c
      have c' : decide ((q : Int) > 0) = true := by simp; omega
      have E : IntKind.u64.wrap ((q : Int).tdiv 2) = ((q / 2 : Nat) : Int) := by rw [IntKind.wrap_u64, Int.tdiv_eq_ediv_of_nonneg (by omega)]; omega
      have E1 : wrap64 ((n : Int) + 1) = ((n + 1 : Nat) : Int) := by unfold wrap64; omega
      go_wp2
      refine ⟨⟨q / 2, n + 1, by first | rfl | (congr 1; omega), by first | rfl | (congr 1; omega), by omega, by omega⟩, ?_⟩
      simp only [intOf]
      omega
end Go.Proofs.YtpeckiaimellmaaDoor.F.C
