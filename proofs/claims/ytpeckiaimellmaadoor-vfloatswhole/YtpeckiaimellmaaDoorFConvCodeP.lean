/-
  convs.Cut, CutHeld, nearest, Float, Promote, Demote.
-/
import Derived.Test.YtpeckiaimellmaaDoorFConvHoldP
set_option linter.unusedVariables false
set_option linter.unusedSimpArgs false
namespace Go.Proofs.YtpeckiaimellmaaDoor.F.C
open Go.RowKit Flo

def prV (p : Nat × Nat) : Value := .tuple #[.int .u64 (p.1 : Int), .int .i64 (p.2 : Int)]
def okC (fr to : Int) (a : Nat) : Bool := okW fr a && isW to
def trapN (r : Nat × Bool) : Nat × Nat := if r.2 then (r.1, 0) else (0, 6)
def cutF (fr to : Int) (sg : Bool) (a : Nat) : Nat × Nat := if okC fr to a then trapN (cutN fr.toNat to.toNat sg a) else (0, 2)
def heldF (fr to : Int) (sg : Bool) (a : Nat) : Nat × Nat := if okC fr to a then ((cutN fr.toNat to.toNat sg a).1, 0) else (0, 2)
def fltF (fr to : Int) (sg : Bool) (a : Nat) : Nat × Nat := if okC fr to a then (fltN fr.toNat to.toNat sg a, 0) else (0, 2)
def promF (a : Nat) : Nat × Nat := if a ≤ 4294967295 then (promN a, 0) else (0, 2)

theorem of_isW {w : Int} (h : isW w = true) : ∃ n : Nat, w = n ∧ IsW n := by
  unfold isW at h
  rw [Bool.or_eq_true] at h
  rcases h with h | h
  · exact ⟨32, by simpa using h, .inl rfl⟩
  · exact ⟨64, by simpa using h, .inr rfl⟩

set_option maxHeartbeats 1000000 in
theorem CutHeld_calls (fr to : Int) (sg : Bool) (a : Nat) (ha : a < 2 ^ 64) (W : World) :
    Calls Tryd.prog 43 #[.int .i64 fr, .int .i64 to, .bool sg, .int .u64 (a : Int)] W fun e W' => e = .returned (prV (heldF fr to sg a)) ∧ Below W.heap.size W W' := by
  have A := hide (fit_calls fr a ha)
  have B := hide (isWidth_calls to)
  cases c1 : okW fr a with
  | false =>
    rw [c1] at A
    have E := hide (show heldF fr to sg a = (0, 2) by simp [heldF, okC, c1])
    clear c1 ha
    go_enter Tryd.func43, Tryd.ntmps43
    go_wp2_with (first | ((with_reducible refine (A.out _).mono ?_); rintro e w1 ⟨rfl, rfl⟩) | ((with_reducible refine (B.out _).mono ?_); rintro e w1 ⟨rfl, rfl⟩))
    refine bodyPost_ret (v := .tuple #[.int .u64 0, .int .i64 2]) (by simp [results, Tryd.results43, go_sem]) rfl ?_
    refine ⟨?_, Below.refl _ _⟩
    rw [E.out]
    rfl
  | true =>
    rw [c1] at A
    cases c2 : isW to with
    | false =>
      rw [c2] at B
      have E := hide (show heldF fr to sg a = (0, 2) by simp [heldF, okC, c2])
      clear c1 c2 ha
      go_enter Tryd.func43, Tryd.ntmps43
      go_wp2_with (first | ((with_reducible refine (A.out _).mono ?_); rintro e w1 ⟨rfl, rfl⟩) | ((with_reducible refine (B.out _).mono ?_); rintro e w1 ⟨rfl, rfl⟩))
      refine bodyPost_ret (v := .tuple #[.int .u64 0, .int .i64 2]) (by simp [results, Tryd.results43, go_sem]) rfl ?_
      refine ⟨?_, Below.refl _ _⟩
      rw [E.out]
      rfl
    | true =>
      rw [c2] at B
      obtain ⟨f, rfl, hf, ha'⟩ := of_okW ha c1
      obtain ⟨t, rfl, ht⟩ := of_isW c2
      have E := hide (show heldF f t sg a = ((cutN f t sg a).1, 0) by simp [heldF, okC, c1, c2])
      have G := hide (cworth_calls hf ha')
      have H := hide (fun x hx r1 r2 hr => hold_from (x := x) (r1 := r1) (r2 := r2) ht sg hx hr)
      have K := hide (fun x h => hold_cut (x := x) (to := t) (a := a) (sg := sg) hf h)
      clear c1 c2 ha ha' hf ht
      generalize cutN f t sg a = r at *
      obtain ⟨r1, r2⟩ := r
      go_enter Tryd.func43, Tryd.ntmps43
      go_wp2_with (first | ((with_reducible refine (A.out _).mono ?_); rintro e w1 ⟨rfl, rfl⟩) | ((with_reducible refine (B.out _).mono ?_); rintro e w1 ⟨rfl, rfl⟩) | ((with_reducible refine (G.out _).mono ?_); rintro e w1 ⟨x, rfl, hx, hb⟩; have HX := hide hx; have HB := hide hb; clear hx hb; have H := hide (H.out x HX.out.lt _ _ (K.out x HX.out))) | ((with_reducible refine (H.out _).mono ?_); rintro e w2 ⟨rfl, hb⟩; have HB := hide (below_two HB.out hb); clear hb))
      refine bodyPost_ret (v := .tuple #[.int .u64 (r1 : Int), .int .i64 0]) (by simp [results, Tryd.results43, go_sem]) rfl ?_
      exact ⟨by rw [E.out]; rfl, HB.out⟩

/-! nearest, Float -/

theorem flt_lt {to : Nat} (hw : IsW to) (fr : Nat) (sg : Bool) (a : Nat) : fltN fr to sg a < 2 ^ to := by
  have h := rung_le_inf (fm to) (magOf fr sg a) 0
  have hsw := inf_lt_sw (fm to)
  have := (fm to).word_lt (negOf fr sg a) (rung := rungOf (fm to) (magOf fr sg a) 0) (by omega)
  rw [width_fm hw] at this
  exact this
theorem isSome64 : (Tryd.prog.underlying 2).isSome = true := by rw [Tryd.underlying2]; rfl
theorem isSomeU64 : (Tryd.prog.underlying 23).isSome = true := by rw [Tryd.underlying23]; rfl

set_option maxHeartbeats 1000000 in
theorem nearestS_calls {to : Nat} (hw : IsW to) {v : Int} {r : Nat} (hr : floatOfInt (kindOf to) v = r) (hl : r < 2 ^ to) (W : World) :
    Calls Tryd.prog 55 #[.int .i64 (to : Int), .int .i64 v] W fun e W' => e = .returned (.int .u64 (r : Int)) ∧ W' = W := by
  have F := bits32
  have G := bits64
  rcases hw with rfl | rfl
  · have V : ∀ w, (convert 2 91 (.int .i64 v)).run Tryd.prog w = .ok (.float .f32 r) w := fun w => by rw [run_convert_int_float w _ _ _ _ _ isSome64 Tryd.underlying91]; exact congrArg (fun z => Result.ok (Value.float .f32 z) w) hr
    have E : IntKind.u64.wrap (r : Int) = (r : Int) := by rw [IntKind.wrap_u64]; omega
    clear hr hl
    go_enter Tryd.func55, Tryd.ntmps55
    go_wp2_with (simp only [V])
    go_ret
    exact ⟨rfl, rfl⟩
  · have V : ∀ w, (convert 2 68 (.int .i64 v)).run Tryd.prog w = .ok (.float .f64 r) w := fun w => by rw [run_convert_int_float w _ _ _ _ _ isSome64 Tryd.underlying68]; exact congrArg (fun z => Result.ok (Value.float .f64 z) w) hr
    clear hr hl
    go_enter Tryd.func55, Tryd.ntmps55
    go_wp2_with (simp only [V])
    go_ret
    exact ⟨rfl, rfl⟩
set_option maxHeartbeats 1000000 in
theorem nearestU_calls {to : Nat} (hw : IsW to) {v : Int} {r : Nat} (hr : floatOfInt (kindOf to) v = r) (hl : r < 2 ^ to) (W : World) :
    Calls Tryd.prog 56 #[.int .i64 (to : Int), .int .u64 v] W fun e W' => e = .returned (.int .u64 (r : Int)) ∧ W' = W := by
  have F := bits32
  have G := bits64
  rcases hw with rfl | rfl
  · have V : ∀ w, (convert 23 91 (.int .u64 v)).run Tryd.prog w = .ok (.float .f32 r) w := fun w => by rw [run_convert_int_float w _ _ _ _ _ isSomeU64 Tryd.underlying91]; exact congrArg (fun z => Result.ok (Value.float .f32 z) w) hr
    have E : IntKind.u64.wrap (r : Int) = (r : Int) := by rw [IntKind.wrap_u64]; omega
    clear hr hl
    go_enter Tryd.func56, Tryd.ntmps56
    go_wp2_with (simp only [V])
    go_ret
    exact ⟨rfl, rfl⟩
  · have V : ∀ w, (convert 23 68 (.int .u64 v)).run Tryd.prog w = .ok (.float .f64 r) w := fun w => by rw [run_convert_int_float w _ _ _ _ _ isSomeU64 Tryd.underlying68]; exact congrArg (fun z => Result.ok (Value.float .f64 z) w) hr
    clear hr hl
    go_enter Tryd.func56, Tryd.ntmps56
    go_wp2_with (simp only [V])
    go_ret
    exact ⟨rfl, rfl⟩

theorem val_s32 {a : Nat} (ha : a < 2 ^ 32) : IntKind.i32.wrap (a : Int) = valI 32 true a := by
  rw [IntKind.wrap_i32]
  unfold valI negOf magOf sgn
  by_cases c : 2147483648 ≤ a
  · simp [c]; omega
  · simp [c]; omega
theorem val_s64 {a : Nat} (ha : a < 2 ^ 64) : IntKind.i64.wrap (a : Int) = valI 64 true a := by
  rw [IntKind.wrap_i64]
  unfold valI negOf magOf sgn
  by_cases c : 9223372036854775808 ≤ a
  · simp [c]; omega
  · simp [c]; omega
theorem val_u {w a : Nat} : (a : Int) = valI w false a := by simp [valI, negOf, magOf, sgn]

set_option maxHeartbeats 1000000 in
theorem Float_calls (fr to : Int) (sg : Bool) (a : Nat) (ha : a < 2 ^ 64) (W : World) :
    Calls Tryd.prog 25 #[.int .i64 fr, .int .i64 to, .bool sg, .int .u64 (a : Int)] W fun e W' => e = .returned (prV (fltF fr to sg a)) ∧ W' = W := by
  have A := hide (fit_calls fr a ha)
  have B := hide (isWidth_calls to)
  cases c1 : okW fr a with
  | false =>
    rw [c1] at A
    have E := hide (show fltF fr to sg a = (0, 2) by simp [fltF, okC, c1])
    clear c1 ha
    go_enter Tryd.func25, Tryd.ntmps25
    go_wp2_with (first | ((with_reducible refine (A.out _).mono ?_); rintro e w1 ⟨rfl, rfl⟩) | ((with_reducible refine (B.out _).mono ?_); rintro e w1 ⟨rfl, rfl⟩))
    refine bodyPost_ret (v := .tuple #[.int .u64 0, .int .i64 2]) (by simp [results, Tryd.results25, go_sem]) rfl ?_
    exact ⟨by rw [E.out]; rfl, rfl⟩
  | true =>
    rw [c1] at A
    cases c2 : isW to with
    | false =>
      rw [c2] at B
      have E := hide (show fltF fr to sg a = (0, 2) by simp [fltF, okC, c2])
      clear c1 c2 ha
      go_enter Tryd.func25, Tryd.ntmps25
      go_wp2_with (first | ((with_reducible refine (A.out _).mono ?_); rintro e w1 ⟨rfl, rfl⟩) | ((with_reducible refine (B.out _).mono ?_); rintro e w1 ⟨rfl, rfl⟩))
      refine bodyPost_ret (v := .tuple #[.int .u64 0, .int .i64 2]) (by simp [results, Tryd.results25, go_sem]) rfl ?_
      exact ⟨by rw [E.out]; rfl, rfl⟩
    | true =>
      rw [c2] at B
      obtain ⟨f, rfl, hf, ha'⟩ := of_okW ha c1
      obtain ⟨t, rfl, ht⟩ := of_isW c2
      have E := hide (show fltF f t sg a = (fltN f t sg a, 0) by simp [fltF, okC, c1, c2])
      have S := hide (nearestS_calls ht (floatOf (to := t) (sg := sg) hf ha') (flt_lt ht f sg a))
      have U := hide (nearestU_calls ht (floatOf (to := t) (sg := sg) hf ha') (flt_lt ht f sg a))
      clear c1 c2 ht
      generalize fltN f t sg a = r at *
      cases sg
      · have e := val_u (w := f) (a := a)
        rw [← e] at U
        clear hf ha ha' S e
        go_enter Tryd.func25, Tryd.ntmps25
        go_wp2_with (first | ((with_reducible refine (A.out _).mono ?_); rintro e w1 ⟨rfl, rfl⟩) | ((with_reducible refine (B.out _).mono ?_); rintro e w1 ⟨rfl, rfl⟩) | ((with_reducible refine (U.out _).mono ?_); rintro e w1 ⟨rfl, rfl⟩))
        refine bodyPost_ret (v := .tuple #[.int .u64 (r : Int), .int .i64 0]) (by simp [results, Tryd.results25, go_sem]) rfl ?_
        exact ⟨by rw [E.out]; rfl, rfl⟩
      · rcases hf with rfl | rfl
        · have E1 : IntKind.u32.wrap (a : Int) = (a : Int) := by rw [IntKind.wrap_u32]; omega
          have E2 := val_s32 ha'
          have E3 : IntKind.i64.wrap (valI 32 true a) = valI 32 true a := by rw [← E2, IntKind.wrap_i32, IntKind.wrap_i64]; omega
          have E4 : wrap64 (valI 32 true a) = valI 32 true a := (IntWalk.i64_left _).symm.trans E3
          have E5 : wrap32 (a : Int) = valI 32 true a := (IntWalk.i32_left _).symm.trans E2
          generalize valI 32 true a = v at *
          simp only [show ((32 : Nat) : Int) = 32 from rfl] at A E ⊢
          clear ha ha' U
          go_enter Tryd.func25, Tryd.ntmps25
          go_wp2_with (first | ((with_reducible refine (A.out _).mono ?_); rintro e w1 ⟨rfl, rfl⟩) | ((with_reducible refine (B.out _).mono ?_); rintro e w1 ⟨rfl, rfl⟩) | ((with_reducible refine (S.out _).mono ?_); rintro e w1 ⟨rfl, rfl⟩))
          refine bodyPost_ret (v := .tuple #[.int .u64 (r : Int), .int .i64 0]) (by simp [results, Tryd.results25, go_sem]) rfl ?_
          exact ⟨by rw [E.out]; rfl, rfl⟩
        · have E2 := val_s64 ha'
          have E3 : wrap64 (a : Int) = valI 64 true a := (IntWalk.i64_left _).symm.trans E2
          generalize valI 64 true a = v at *
          simp only [show ((64 : Nat) : Int) = 64 from rfl] at A E ⊢
          clear ha ha' U
          go_enter Tryd.func25, Tryd.ntmps25
          go_wp2_with (first | ((with_reducible refine (A.out _).mono ?_); rintro e w1 ⟨rfl, rfl⟩) | ((with_reducible refine (B.out _).mono ?_); rintro e w1 ⟨rfl, rfl⟩) | ((with_reducible refine (S.out _).mono ?_); rintro e w1 ⟨rfl, rfl⟩))
          refine bodyPost_ret (v := .tuple #[.int .u64 (r : Int), .int .i64 0]) (by simp [results, Tryd.results25, go_sem]) rfl ?_
          exact ⟨by rw [E.out]; rfl, rfl⟩

/-! Promote, Demote -/

set_option maxHeartbeats 1000000 in
theorem Promote_calls (a : Nat) (ha : a < 2 ^ 64) (W : World) :
    Calls Tryd.prog 47 #[.int .u64 (a : Int)] W fun e W' => e = .returned (prV (promF a)) ∧ Below W.heap.size W W' := by
  have A := hide (fit_calls 32 a ha)
  have G := bits64
  by_cases c : a ≤ 4294967295
  · have e : okW 32 a = true := by simp [okW, c]
    rw [e] at A
    have D := hide (cworth_calls (w := 32) (a := a) (.inl rfl) (by omega))
    simp only [show ((32 : Nat) : Int) = 32 from rfl] at D
    have N := hide (fun x hx => IsNaN_calls (x := x) hx)
    have K := hide (fun x (h : Wor 32 a x) => h.na_eq (.inl rfl))
    cases hn : na 32 a with
    | true =>
      have E := hide (show promF a = (9221120237041090560, 0) by simp [promF, c, promN, hn, nanN])
      rw [hn] at K
      clear c e ha hn
      go_enter Tryd.func47, Tryd.ntmps47
      go_wp2_with (first | ((with_reducible refine (A.out _).mono ?_); rintro e w1 ⟨rfl, rfl⟩) | ((with_reducible refine (D.out _).mono ?_); rintro e w1 ⟨x, rfl, hx, hb⟩; have HX := hide hx; have HB := hide hb; clear hx hb; have N := hide (N.out x HX.out.lt); rw [K.out x HX.out] at N) | ((with_reducible refine (N.out _).mono ?_); rintro e w1 ⟨rfl, rfl⟩))
      refine bodyPost_ret (v := .tuple #[.int .u64 9221120237041090560, .int .i64 0]) (by simp [results, Tryd.results47, go_sem]) rfl ?_
      exact ⟨by rw [E.out]; rfl, HB.out⟩
    | false =>
      have E := hide (show promF a = (worthN 32 a, 0) by simp [promF, c, promN, hn])
      have Z := hide (fun x (h : Wor 32 a x) => h.num hn)
      rw [hn] at K
      clear c e ha hn
      generalize worthN 32 a = r at *
      go_enter Tryd.func47, Tryd.ntmps47
      go_wp2_with (first | ((with_reducible refine (A.out _).mono ?_); rintro e w1 ⟨rfl, rfl⟩) | ((with_reducible refine (D.out _).mono ?_); rintro e w1 ⟨x, rfl, hx, hb⟩; obtain rfl := Z.out x hx; have HX := hide hx; have HB := hide hb; clear hx hb; have N := hide (N.out _ HX.out.lt); rw [K.out _ HX.out] at N) | ((with_reducible refine (N.out _).mono ?_); rintro e w1 ⟨rfl, rfl⟩))
      refine bodyPost_ret (v := .tuple #[.int .u64 _, .int .i64 0]) (by simp [results, Tryd.results47, go_sem]; rfl) rfl ?_
      exact ⟨by rw [E.out]; rfl, HB.out⟩
  · have e : okW 32 a = false := by simp [okW]; omega
    have E := hide (show promF a = (0, 2) by simp [promF, c])
    rw [e] at A
    clear c e ha
    go_enter Tryd.func47, Tryd.ntmps47
    go_wp2_with (first | ((with_reducible refine (A.out _).mono ?_); rintro e w1 ⟨rfl, rfl⟩))
    refine bodyPost_ret (v := .tuple #[.int .u64 0, .int .i64 2]) (by simp [results, Tryd.results47, go_sem]) rfl ?_
    exact ⟨by rw [E.out]; rfl, Below.refl _ _⟩

theorem order_beyond {x : Nat} (h : rung Ieee.double x ≤ Ieee.double.infRung) : (FloatKind.f64.format.order (rung Ieee.double x) 5183643170835005440 == some .gt || FloatKind.f64.format.order (rung Ieee.double x) 5183643170835005440 == some .eq) = decide (beyond ≤ rung Ieee.double x) := by
  have hl : rung Ieee.double x < Ieee.double.signWeight := rung_lt _ _
  have e1 : rung Ieee.double (rung Ieee.double x) = rung Ieee.double x := Nat.mod_eq_of_lt hl
  have e2 : neg Ieee.double (rung Ieee.double x) = false := by unfold neg; rw [Nat.div_eq_of_lt hl]; rfl
  have o : FloatKind.f64.format.order (rung Ieee.double x) 5183643170835005440 = _ := order_place good_double (x := rung Ieee.double x) (y := 5183643170835005440) (by rw [e1]; exact h) (by decide +kernel)
  rw [o, cmpI_ge]
  have p1 : place Ieee.double (rung Ieee.double x) = (rung Ieee.double x : Int) := by unfold place; rw [e1, e2]; rfl
  have p2 : place Ieee.double 5183643170835005440 = 5183643170835005440 := by decide +kernel
  rw [p1, p2]
  unfold beyond
  congr 1
  apply propext
  omega
theorem shr_sign {a : Nat} (ha : a < 2 ^ 64) : a / 2 ^ 63 * 2 ^ 31 ||| 2139095040 = Ieee.single.word (neg Ieee.double a) Ieee.single.infRung := by
  have hq : a / 2 ^ 63 < 2 := by omega
  have e : neg Ieee.double a = decide (a / 2 ^ 63 = 1) := by
    unfold neg
    rw [sw_double, show (9223372036854775808 : Nat) = 2 ^ 63 by decide, Nat.mod_eq_of_lt hq]
    simp [Bool.beq_eq_decide_eq]
  rw [e]
  rcases (show a / 2 ^ 63 = 0 ∨ a / 2 ^ 63 = 1 by omega) with h | h <;> rw [h] <;> decide
theorem dem_is {a : Nat} (hn : na 64 a = false) (h : beyond ≤ rung Ieee.double a) : demN a = Ieee.single.word (neg Ieee.double a) Ieee.single.infRung := by
  unfold demN back
  rw [hn, if_neg (by decide), if_pos rfl, dem_great h]

set_option maxHeartbeats 1000000 in
theorem Demote_calls (a : Nat) (ha : a < 2 ^ 64) (W : World) :
    Calls Tryd.prog 49 #[.int .u64 (a : Int)] W fun e W' => e = .returned (prV (demN a, 0)) ∧ W' = W := by
  have D := hide (cworth64 ha)
  have N := hide (IsNaN_calls ha)
  have A := hide (Abs_calls ha)
  have F := bits32
  cases hn : na 64 a with
  | true =>
    rw [hn] at N
    have E := hide (show demN a = 2143289344 by simp [demN, hn, nanN])
    clear ha hn
    go_enter Tryd.func49, Tryd.ntmps49
    go_wp2_with (first | ((with_reducible refine (D.out _).mono ?_); rintro e w1 ⟨rfl, rfl⟩) | ((with_reducible refine (N.out _).mono ?_); rintro e w1 ⟨rfl, rfl⟩))
    refine bodyPost_ret (v := .tuple #[.int .u64 2143289344, .int .i64 0]) (by simp [results, Tryd.results49, go_sem]) rfl ?_
    exact ⟨by rw [E.out]; rfl, rfl⟩
  | false =>
    rw [hn] at N
    have h1 : rung Ieee.double a ≤ Ieee.double.infRung := na_false hn
    have O := order_beyond h1
    by_cases c : beyond ≤ rung Ieee.double a
    · rw [decide_eq_true c] at O
      have E := hide (dem_is hn c)
      have Z := shr_sign ha
      generalize Ieee.single.word (neg Ieee.double a) Ieee.single.infRung = r at *
      generalize rung Ieee.double a = g at *
      have q1 : a / 2 ^ 63 < 2 := by omega
      have Z1 : ((a : Int) / 9223372036854775808) = ((a / 2 ^ 63 : Nat) : Int) := by omega
      generalize a / 2 ^ 63 = q at *
      have Z2 : bits .or .u64 (((q * 2 ^ 31 : Nat)) : Int) 2139095040 = (r : Int) := by
        have := u64_or_nat (q * 2 ^ 31) 2139095040 (by omega) (by decide)
        rw [Z] at this
        exact this
      have HZ := hide (show (q = 0 ∨ q = 1) by omega)
      clear ha hn h1 c Z
      rcases HZ.out with rfl | rfl
      all_goals
        clear HZ q1
        simp only [Nat.zero_mul, Nat.one_mul, show ((0 : Nat) : Int) = 0 from rfl, show ((1 : Nat) : Int) = 1 from rfl, show ((2 ^ 31 : Nat) : Int) = 2147483648 from rfl] at Z1 Z2
        go_enter Tryd.func49, Tryd.ntmps49
        go_wp2_with (first | ((with_reducible refine (D.out _).mono ?_); rintro e w1 ⟨rfl, rfl⟩) | ((with_reducible refine (N.out _).mono ?_); rintro e w1 ⟨rfl, rfl⟩) | ((with_reducible refine (A.out _).mono ?_); rintro e w1 ⟨rfl, rfl⟩))
        refine bodyPost_ret (v := .tuple #[.int .u64 (r : Int), .int .i64 0]) (by simp [results, Tryd.results49, go_sem]) rfl ?_
        exact ⟨by rw [E.out]; rfl, rfl⟩
    · rw [decide_eq_false c] at O
      have E := hide (show demN a = back 32 a by simp [demN, hn])
      have V : ∀ w, (convert 68 91 (.float .f64 a)).run Tryd.prog w = .ok (.float .f32 (back 32 a)) w := fun w => narrow_num _ _ _ isSome44 Tryd.underlying91 a hn (fun _ _ _ => dem_less (by omega)) w
      have hb := back_lt a
      generalize back 32 a = r at *
      generalize rung Ieee.double a = g at *
      have E1 : IntKind.u64.wrap (r : Int) = (r : Int) := by rw [IntKind.wrap_u64]; omega
      clear ha hn h1 c hb
      go_enter Tryd.func49, Tryd.ntmps49
      go_wp2_with (first | ((with_reducible refine (D.out _).mono ?_); rintro e w1 ⟨rfl, rfl⟩) | ((with_reducible refine (N.out _).mono ?_); rintro e w1 ⟨rfl, rfl⟩) | ((with_reducible refine (A.out _).mono ?_); rintro e w1 ⟨rfl, rfl⟩) | simp only [V])
      refine bodyPost_ret (v := .tuple #[.int .u64 (r : Int), .int .i64 0]) (by simp [results, Tryd.results49, go_sem]) rfl ?_
      exact ⟨by rw [E.out]; rfl, rfl⟩
end Go.Proofs.YtpeckiaimellmaaDoor.F.C
