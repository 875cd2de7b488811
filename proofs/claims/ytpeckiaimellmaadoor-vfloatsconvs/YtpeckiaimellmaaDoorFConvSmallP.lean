/-
  The small functions of convs: isWidth, most, fit, worth, bounds, whole, nearest; math's IsNaN and Abs.
-/
import Derived.Test.YtpeckiaimellmaaDoorFFloWaysP
import Derived.Test.YtpeckiaimellmaaDoorFFloFitP
import Derived.Test.YtpeckiaimellmaaDoorFConvMathP
set_option linter.unusedVariables false
set_option linter.unusedSimpArgs false
namespace Go.Proofs.YtpeckiaimellmaaDoor.F.C
open Go.RowKit Flo

def isW (w : Int) : Bool := w == 32 || w == 64

set_option maxHeartbeats 400000 in
theorem isWidth_calls (w : Int) (W : World) :
    Calls Tryd.prog 54 #[.int .i64 w] W fun e W' => e = .returned (.bool (isW w)) ∧ W' = W := by
  by_cases h1 : w = 32
  · subst h1
    go_enter Tryd.func54, Tryd.ntmps54
    go_wp2
    go_ret
    exact ⟨rfl, rfl⟩
  · by_cases h2 : w = 64
    · subst h2
      go_enter Tryd.func54, Tryd.ntmps54
      go_wp2
      go_ret
      exact ⟨rfl, rfl⟩
    · have e : isW w = false := by simp [isW, h1, h2]
      rw [e]
      have e1 : (w == 32) = false := by simp [h1]
      have e2 : (w == 64) = false := by simp [h2]
      clear h1 h2 e
      go_enter Tryd.func54, Tryd.ntmps54
      go_wp2
      go_ret
      exact ⟨rfl, rfl⟩

def mostN (w : Nat) : Nat := 2 ^ w - 1

set_option maxHeartbeats 400000 in
theorem most_calls {w : Nat} (hw : IsW w) (W : World) :
    Calls Tryd.prog 102 #[.int .i64 (w : Int)] W fun e W' => e = .returned (.int .u64 (mostN w : Int)) ∧ W' = W := by
  rcases hw with rfl | rfl <;>
  · go_enter Tryd.func102, Tryd.ntmps102
    go_wp2
    go_ret
    exact ⟨rfl, rfl⟩

set_option maxHeartbeats 400000 in
theorem fit_calls (w : Int) (a : Nat) (ha : a < 2 ^ 64) (W : World) :
    Calls Tryd.prog 53 #[.int .i64 w, .int .u64 (a : Int)] W fun e W' => e = .returned (.bool (okW w a)) ∧ W' = W := by
  have C := hide (isWidth_calls w)
  by_cases h1 : w = 32
  · subst h1
    have M := hide (most_calls (w := 32) (.inl rfl))
    have E : okW 32 a = decide (a ≤ 4294967295) := by simp [okW]
    have E' : decide ((a : Int) ≤ 4294967295) = decide (a ≤ 4294967295) := by congr 1; apply propext; omega
    simp only [show isW 32 = true from rfl] at C
    simp only [show ((32 : Nat) : Int) = 32 from rfl, show ((mostN 32 : Nat) : Int) = 4294967295 from rfl] at M
    rw [E]
    clear E
    go_enter Tryd.func53, Tryd.ntmps53
    go_wp2_with (first | ((with_reducible refine (C.out _).mono ?_); rintro e w1 ⟨rfl, rfl⟩) | ((with_reducible refine (M.out _).mono ?_); rintro e w1 ⟨rfl, rfl⟩))
    go_ret
    first | exact ⟨rfl, rfl⟩ | exact ⟨by rw [E'], rfl⟩
  · by_cases h2 : w = 64
    · subst h2
      have M := hide (most_calls (w := 64) (.inr rfl))
      have E : okW 64 a = true := by simp [okW]
      have E' : decide ((a : Int) ≤ 18446744073709551615) = true := by simp; omega
      simp only [show isW 64 = true from rfl] at C
      simp only [show ((64 : Nat) : Int) = 64 from rfl, show ((mostN 64 : Nat) : Int) = 18446744073709551615 from rfl] at M
      rw [E]
      clear E h1
      go_enter Tryd.func53, Tryd.ntmps53
      go_wp2_with (first | ((with_reducible refine (C.out _).mono ?_); rintro e w1 ⟨rfl, rfl⟩) | ((with_reducible refine (M.out _).mono ?_); rintro e w1 ⟨rfl, rfl⟩))
      go_ret
      first | exact ⟨rfl, rfl⟩ | exact ⟨by rw [E'], rfl⟩
    · have e : isW w = false := by simp [isW, h1, h2]
      have E : okW w a = false := by simp [okW, h1, h2]
      rw [E]
      rw [e] at C
      clear h1 h2 e E ha
      go_enter Tryd.func53, Tryd.ntmps53
      go_wp2_with ((with_reducible refine (C.out _).mono ?_); rintro e w1 ⟨rfl, rfl⟩)
      go_ret
      exact ⟨rfl, rfl⟩

/-! worth -/

set_option maxHeartbeats 1000000 in
theorem cworth64 {a : Nat} (ha : a < 2 ^ 64) (W : World) :
    Calls Tryd.prog 88 #[.int .i64 64, .int .u64 (a : Int)] W fun e W' => e = .returned (.float .f64 a) ∧ W' = W := by
  have F := from64
  go_enter Tryd.func88, Tryd.ntmps88
  go_wp2
  go_ret
  exact ⟨rfl, rfl⟩
set_option maxHeartbeats 1000000 in
theorem cworth32n {a : Nat} (ha : a < 2 ^ 32) (hn : na 32 a = false) (W : World) :
    Calls Tryd.prog 88 #[.int .i64 32, .int .u64 (a : Int)] W fun e W' => e = .returned (.float .f64 (worthN 32 a)) ∧ W' = W := by
  have F := from32
  have E : IntKind.u32.wrap (a : Int) = (a : Int) := by rw [IntKind.wrap_u32]; omega
  have V : ∀ w, (convert 91 68 (.float .f32 a)).run Tryd.prog w = .ok (.float .f64 (worthN 32 a)) w := fun w => wide_num _ _ _ isSome54 Tryd.underlying68 a hn w
  generalize worthN 32 a = x at *
  go_enter Tryd.func88, Tryd.ntmps88
  go_wp2_with (simp only [V])
  go_ret
  exact ⟨rfl, rfl⟩
set_option maxHeartbeats 1000000 in
theorem cworth32x {a : Nat} (ha : a < 2 ^ 32) (hn : na 32 a = true) (W : World) :
    Calls Tryd.prog 88 #[.int .i64 32, .int .u64 (a : Int)] W (WorPost 32 a W) := by
  have F := from32
  have E : IntKind.u32.wrap (a : Int) = (a : Int) := by rw [IntKind.wrap_u32]; omega
  have V : ∀ w, (convert 91 68 (.float .f32 a)).run Tryd.prog w = .ok (.float .f64 ((Question.nanConv .f64 a).cut (w.tape w.drawn (.nanConv .f64 a)))) w.drew := fun w => conv_nan _ _ _ .f32 .f64 (by decide) isSome54 Tryd.underlying68 a _ _ (read_nan good_single (na_true hn)) w
  have T := tape64 (q := .nanConv .f64 a) (fun t => rfl) W
  go_enter Tryd.func88, Tryd.ntmps88
  go_wp2_with (simp only [V])
  go_ret
  exact ⟨_, rfl, ⟨T.2, fun _ => T.1, fun h => by rw [hn] at h; cases h⟩, (Below.refl _ _).drew⟩

theorem cworth_calls {w a : Nat} (hw : IsW w) (ha : a < 2 ^ w) (W : World) :
    Calls Tryd.prog 88 #[.int .i64 (w : Int), .int .u64 (a : Int)] W (WorPost w a W) := by
  rcases hw with rfl | rfl
  · cases hn : na 32 a with
    | true => exact cworth32x ha hn W
    | false =>
      refine (cworth32n ha hn W).mono ?_
      rintro e W' ⟨rfl, rfl⟩
      refine ⟨_, rfl, ⟨?_, fun h => (by rw [hn] at h; cases h), fun _ => rfl⟩, Below.refl _ _⟩
      have h1 : rung Ieee.single a ≤ Ieee.single.infRung := na_false hn
      have := prom_le h1
      have hsw := inf_lt_sw Ieee.double
      exact Ieee.double.word_lt _ (by omega)
  · refine (cworth64 ha W).mono ?_
    rintro e W' ⟨rfl, rfl⟩
    exact ⟨_, rfl, ⟨ha, fun h => h, fun _ => rfl⟩, Below.refl _ _⟩

/-! math -/

theorem wor_self {x : Nat} (hx : x < 2 ^ 64) : Wor 64 x x := ⟨hx, fun h => h, fun _ => rfl⟩
theorem order_self {x : Nat} (hx : x < 2 ^ 64) : (FloatKind.f64.format.order x x != some .eq) = na 64 x := by
  have := order_ne (w := 64) (.inr rfl) (wor_self hx) (wor_self hx)
  show (Ieee.double.order x x != some .eq) = _
  rw [this]
  unfold sameN
  cases na 64 x <;> simp

set_option maxHeartbeats 400000 in
theorem IsNaN_calls {x : Nat} (hx : x < 2 ^ 64) (W : World) :
    Calls Tryd.prog 94 #[.float .f64 x] W fun e W' => e = .returned (.bool (na 64 x)) ∧ W' = W := by
  have E := order_self hx
  generalize na 64 x = b at *
  go_enter Tryd.func94, Tryd.ntmps94
  go_wp2
  go_ret
  first | exact ⟨rfl, rfl⟩ | exact ⟨by rw [E], rfl⟩

set_option maxHeartbeats 400000 in
theorem Abs_calls {x : Nat} (hx : x < 2 ^ 64) (W : World) :
    Calls Tryd.prog 98 #[.float .f64 x] W fun e W' => e = .returned (.float .f64 (rung Ieee.double x)) ∧ W' = W := by
  have F := from64
  have G := bits64
  have E : bits .andNot .u64 (x : Int) 9223372036854775808 = (rung Ieee.double x : Int) := bits_andNot_sign (w := 64) (.inr rfl) hx
  generalize rung Ieee.double x = r at *
  go_enter Tryd.func98, Tryd.ntmps98
  go_wp2
  go_ret
  exact ⟨rfl, rfl⟩

/-! bounds -/

def lowW (to : Nat) (sg : Bool) : Nat := if sg then (if to = 32 then 13970166044103278592 else 14114281232179134464) else 0
def endW (to : Nat) (sg : Bool) : Nat := if sg then (if to = 32 then 4746794007248502784 else 4890909195324358656) else (if to = 32 then 4751297606875873280 else 4895412794951729152)
theorem low_is {to : Nat} (h : IsW to) (sg : Bool) : Wh (lowW to sg) ∧ trI (lowW to sg) = lowI to sg := by
  rcases h with rfl | rfl <;> cases sg
  · exact bound_zero
  · exact bound_low32
  · exact bound_zero
  · exact bound_low64
theorem end_is {to : Nat} (h : IsW to) (sg : Bool) : Wh (endW to sg) ∧ trI (endW to sg) = endI to sg := by
  rcases h with rfl | rfl <;> cases sg
  · exact bound_u32
  · exact bound_end32
  · exact bound_u64
  · exact bound_end64

set_option maxHeartbeats 400000 in
theorem bounds_calls {to : Nat} (hw : IsW to) (sg : Bool) (W : World) :
    Calls Tryd.prog 127 #[.int .i64 (to : Int), .bool sg] W fun e W' => e = .returned (.tuple #[.float .f64 (lowW to sg), .float .f64 (endW to sg)]) ∧ W' = W := by
  rcases hw with rfl | rfl <;> cases sg
  · go_enter Tryd.func127, Tryd.ntmps127
    go_wp2
    refine bodyPost_ret (v := .tuple #[.float .f64 (lowW 32 false), .float .f64 (endW 32 false)]) (by simp [results, Tryd.results127, go_sem, lowW, endW]) rfl ?_
    exact ⟨rfl, rfl⟩
  · go_enter Tryd.func127, Tryd.ntmps127
    go_wp2
    refine bodyPost_ret (v := .tuple #[.float .f64 (lowW 32 true), .float .f64 (endW 32 true)]) (by simp [results, Tryd.results127, go_sem, lowW, endW]) rfl ?_
    exact ⟨rfl, rfl⟩
  · go_enter Tryd.func127, Tryd.ntmps127
    go_wp2
    refine bodyPost_ret (v := .tuple #[.float .f64 (lowW 64 false), .float .f64 (endW 64 false)]) (by simp [results, Tryd.results127, go_sem, lowW, endW]) rfl ?_
    exact ⟨rfl, rfl⟩
  · go_enter Tryd.func127, Tryd.ntmps127
    go_wp2
    refine bodyPost_ret (v := .tuple #[.float .f64 (lowW 64 true), .float .f64 (endW 64 true)]) (by simp [results, Tryd.results127, go_sem, lowW, endW]) rfl ?_
    exact ⟨rfl, rfl⟩

/-! whole -/

theorem toIntVal {x : Nat} {k : IntKind} (hr : rung Ieee.double x < Ieee.double.infRung) (h1 : k.min ≤ trI x) (h2 : trI x ≤ k.max) : floatToIntVal .f64 x k = some (trI x) := by
  unfold floatToIntVal
  rw [show FloatKind.f64.decode x = Ieee.double.read x from rfl, toInt_tr hr]
  simp only
  rw [if_pos ⟨h1, h2⟩]

def wholeN (to : Nat) (v : Int) : Nat := (v % ((2 ^ to : Nat) : Int)).toNat

set_option maxHeartbeats 1000000 in
theorem whole_calls {to x : Nat} (hw : IsW to) (sg : Bool) (hr : rung Ieee.double x < Ieee.double.infRung) (h1 : lowI to sg ≤ trI x) (h2 : trI x < endI to sg) (W : World) :
    Calls Tryd.prog 128 #[.int .i64 (to : Int), .bool sg, .float .f64 x] W fun e W' => e = .returned (.int .u64 (wholeN to (trI x) : Int)) ∧ W' = W := by
  rcases hw with rfl | rfl <;> cases sg
  · have V : ∀ w, (convert 68 59 (.float .f64 x)).run Tryd.prog w = .ok (.int .u32 (trI x)) w := fun w => run_convert_float_int w _ _ _ _ _ _ isSome44 Tryd.underlying59 (toIntVal hr (by exact h1) (by have : trI x < 4294967296 := h2; show trI x ≤ 4294967295; omega))
    have a1 : 0 ≤ trI x := h1
    have a2 : trI x < 4294967296 := h2
    have E : wholeN 32 (trI x) = (trI x).toNat := by unfold wholeN; omega
    rw [E]
    have E' : IntKind.u64.wrap (trI x) = trI x := by rw [IntKind.wrap_u64]; omega
    have E2 : ((trI x).toNat : Int) = trI x := by omega
    rw [E2]
    clear h1 h2 hr E E2
    generalize trI x = v at *
    clear a1 a2
    go_enter Tryd.func128, Tryd.ntmps128
    go_wp2_with (simp only [V])
    go_ret
    exact ⟨rfl, rfl⟩
  · have V : ∀ w, (convert 68 21 (.float .f64 x)).run Tryd.prog w = .ok (.int .i32 (trI x)) w := fun w => run_convert_float_int w _ _ _ _ _ _ isSome44 Tryd.underlying21 (toIntVal hr (by exact h1) (by have : trI x < 2147483648 := h2; show trI x ≤ 2147483647; omega))
    have a1 : -2147483648 ≤ trI x := h1
    have a2 : trI x < 2147483648 := h2
    have E' : IntKind.u32.wrap (trI x) = (wholeN 32 (trI x) : Int) := by rw [IntKind.wrap_u32]; unfold wholeN; omega
    have E2 : IntKind.u64.wrap (wholeN 32 (trI x) : Int) = (wholeN 32 (trI x) : Int) := by rw [IntKind.wrap_u64]; unfold wholeN; omega
    clear h1 h2 hr
    generalize wholeN 32 (trI x) = r at *
    generalize trI x = v at *
    clear a1 a2
    go_enter Tryd.func128, Tryd.ntmps128
    go_wp2_with (simp only [V])
    go_ret
    exact ⟨rfl, rfl⟩
  · have V : ∀ w, (convert 68 23 (.float .f64 x)).run Tryd.prog w = .ok (.int .u64 (trI x)) w := fun w => run_convert_float_int w _ _ _ _ _ _ isSome44 Tryd.underlying23 (toIntVal hr (by exact h1) (by have : trI x < 18446744073709551616 := h2; show trI x ≤ 18446744073709551615; omega))
    have a1 : 0 ≤ trI x := h1
    have a2 : trI x < 18446744073709551616 := h2
    have E : wholeN 64 (trI x) = (trI x).toNat := by unfold wholeN; omega
    rw [E]
    have E2 : ((trI x).toNat : Int) = trI x := by omega
    rw [E2]
    clear h1 h2 hr E E2
    generalize trI x = v at *
    clear a1 a2
    go_enter Tryd.func128, Tryd.ntmps128
    go_wp2_with (simp only [V])
    go_ret
    exact ⟨rfl, rfl⟩
  · have V : ∀ w, (convert 68 2 (.float .f64 x)).run Tryd.prog w = .ok (.int .i64 (trI x)) w := fun w => run_convert_float_int w _ _ _ _ _ _ isSome44 Tryd.underlying2 (toIntVal hr (by exact h1) (by have : trI x < 9223372036854775808 := h2; show trI x ≤ 9223372036854775807; omega))
    have a1 : -9223372036854775808 ≤ trI x := h1
    have a2 : trI x < 9223372036854775808 := h2
    have E' : IntKind.u64.wrap (trI x) = (wholeN 64 (trI x) : Int) := by rw [IntKind.wrap_u64]; unfold wholeN; omega
    clear h1 h2 hr
    generalize wholeN 64 (trI x) = r at *
    generalize trI x = v at *
    clear a1 a2
    go_enter Tryd.func128, Tryd.ntmps128
    go_wp2_with (simp only [V])
    go_ret
    exact ⟨rfl, rfl⟩
end Go.Proofs.YtpeckiaimellmaaDoor.F.C
