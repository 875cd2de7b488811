/-
  floats.worth, bitsOf, arithmetic, reckon; math's roots and roundings.
-/
import Derived.Test.YtpeckiaimellmaaDoorFFloSmallP
import Derived.Test.YtpeckiaimellmaaDoorFFloAnsP
set_option linter.unusedVariables false
set_option linter.unusedSimpArgs false
namespace Go.Proofs.YtpeckiaimellmaaDoor.F
open Go.RowKit Flo

/-! off the tape -/

def tapeNan (k : FloatKind) (q : Question) (w : World) : Nat := q.cut (w.tape w.drawn q)

theorem tape32 {q : Question} (h : ∀ t, q.cut t = t % 2 * 2 ^ 31 + 0x7f800000 + 1 + t / 2 % (2 ^ 23 - 1)) (w : World) : na 32 (q.cut (w.tape w.drawn q)) = true ∧ q.cut (w.tape w.drawn q) < 2 ^ 32 := by
  rw [h]; exact nan_cut32 _
theorem tape64 {q : Question} (h : ∀ t, q.cut t = t % 2 * 2 ^ 63 + 0x7ff0000000000000 + 1 + t / 2 % (2 ^ 52 - 1)) (w : World) : na 64 (q.cut (w.tape w.drawn q)) = true ∧ q.cut (w.tape w.drawn q) < 2 ^ 64 := by
  rw [h]; exact nan_cut64 _

section
variable (P : Program)
theorem arith_some (op : BinOp) (t : TypeId) (k : FloatKind) (x y r : Nat) (h : floatBits op k x y = some r) (w : World) : (binOp op t (.float k x) (.float k y)).run P w = .ok (.float k r) w := run_float_arith w op t k x y r h
theorem arith_none (op : BinOp) (ho : op = .add ∨ op = .sub ∨ op = .mul ∨ op = .quo) (t : TypeId) (k : FloatKind) (x y : Nat) (h : floatBits op k x y = none) (w : World) :
    (binOp op t (.float k x) (.float k y)).run P w = .ok (.float k ((Question.nanBits k x y).cut (w.tape w.drawn (.nanBits k x y)))) w.drew := by
  rcases ho with rfl | rfl | rfl | rfl <;> simp only [floatBits] at h <;> simp [binOp, Op.floatArith, h, Question.forced]

theorem wide_num (src dst : TypeId) (hs : (P.underlying src).isSome = true) (hd : P.underlying dst = some (.float .f64)) (b : Nat) (h : na 32 b = false) (w : World) :
    (convert src dst (.float .f32 b)).run P w = .ok (.float .f64 (Ieee.double.word (neg Ieee.single b) (prom (rung Ieee.single b)))) w := by
  have h1 : rung Ieee.single b ≤ Ieee.single.infRung := na_false h
  have e : floatToFloatBits .f32 b .f64 = some (Ieee.double.write (Ieee.single.read b)) := by
    unfold floatToFloatBits
    rw [if_neg (by decide)]
    show (match Ieee.single.read b with | .nan _ _ => none | .infinity s => some (Ieee.double.write (.infinity s)) | .number s m e => if (Ieee.double.read (Ieee.double.write (.number s m e))).isInfinity then none else some (Ieee.double.write (.number s m e))) = _
    rcases Nat.lt_or_ge (rung Ieee.single b) Ieee.single.infRung with c | c
    · obtain ⟨m, k, _, _, em, hr⟩ := parts_of good_single c
      rw [hr b rfl]
      simp only
      have hd : (Ieee.double.read (Ieee.double.write (.number (neg Ieee.single b) m (Ieee.single.leastPlace + k)))).isInfinity = false := by
        have hp := promote (x := b) h1
        rw [hr b rfl] at hp
        rw [hp]
        have hlt := (prom_worth c).1
        have hsw := inf_lt_sw Ieee.double
        obtain ⟨m', k', _, _, _, hr'⟩ := parts_of good_double hlt
        rw [hr' _ (rung_word _ _ (by omega))]
        rfl
      rw [hd]
      rfl
    · have ei : rung Ieee.single b = Ieee.single.infRung := by omega
      rw [read_inf good_single ei]
  rw [promote h1] at e
  exact run_convert_float_float w src dst .f32 .f64 b _ hs hd e
theorem conv_nan (src dst : TypeId) (s k : FloatKind) (hsk : s ≠ k) (hs : (P.underlying src).isSome = true) (hd : P.underlying dst = some (.float k)) (b : Nat) (sg : Bool) (t : Nat) (h : s.format.read b = .nan sg t) (w : World) :
    (convert src dst (.float s b)).run P w = .ok (.float k ((Question.nanConv k b).cut (w.tape w.drawn (.nanConv k b)))) w.drew := by
  obtain ⟨u, hs'⟩ := Option.isSome_iff_exists.1 hs
  have h' : s.decode b = .nan sg t := h
  cases u <;> simp [convert, run_underlying hs', run_underlying hd, Conv.floatToFloat, hsk, h', Question.forced]
theorem narrow_num (src dst : TypeId) (hs : (P.underlying src).isSome = true) (hd : P.underlying dst = some (.float .f32)) (x : Nat) (h : na 64 x = false) (hf : Fits 32 x) (w : World) :
    (convert src dst (.float .f64 x)).run P w = .ok (.float .f32 (back 32 x)) w := by
  have h1 : rung Ieee.double x ≤ Ieee.double.infRung := na_false h
  have e : floatToFloatBits .f64 x .f32 = some (Ieee.single.write (Ieee.double.read x)) := by
    unfold floatToFloatBits
    rw [if_neg (by decide)]
    show (match Ieee.double.read x with | .nan _ _ => none | .infinity s => some (Ieee.single.write (.infinity s)) | .number s m e => if (Ieee.single.read (Ieee.single.write (.number s m e))).isInfinity then none else some (Ieee.single.write (.number s m e))) = _
    rcases Nat.lt_or_ge (rung Ieee.double x) Ieee.double.infRung with c | c
    · obtain ⟨m, k, _, _, em, hr⟩ := parts_of good_double c
      rw [hr x rfl]
      simp only
      have hd : (Ieee.single.read (Ieee.single.write (.number (neg Ieee.double x) m (Ieee.double.leastPlace + k)))).isInfinity = false := by
        have hp := demote (x := x) h1
        rw [hr x rfl] at hp
        rw [hp]
        have hlt := hf rfl h c
        have hsw := inf_lt_sw Ieee.single
        obtain ⟨m', k', _, _, _, hr'⟩ := parts_of good_single hlt
        rw [hr' _ (rung_word _ _ (by omega))]
        rfl
      rw [hd]
      rfl
    · have ei : rung Ieee.double x = Ieee.double.infRung := by omega
      rw [read_inf good_double ei]
  rw [demote h1] at e
  exact run_convert_float_float w src dst .f64 .f32 x _ hs hd e
end

theorem isSome54 : (Tryd.prog.underlying 91).isSome = true := by rw [Tryd.underlying91]; rfl
theorem isSome44 : (Tryd.prog.underlying 68).isSome = true := by rw [Tryd.underlying68]; rfl

def WorPost (w a : Nat) (W : World) (e : Ending) (W' : World) : Prop := ∃ x : Nat, e = .returned (.float .f64 x) ∧ Wor w a x ∧ Below W.heap.size W W'

set_option maxHeartbeats 1000000 in
theorem worth64 {a : Nat} (ha : a < 2 ^ 64) (W : World) :
    Calls Tryd.prog 66 #[.int .i64 64, .int .u64 (a : Int)] W fun e W' => e = .returned (.float .f64 a) ∧ W' = W := by
  have F := from64
  go_enter Tryd.func66, Tryd.ntmps66
  go_wp2
  go_ret
  exact ⟨rfl, rfl⟩
set_option maxHeartbeats 1000000 in
theorem worth32n {a : Nat} (ha : a < 2 ^ 32) (hn : na 32 a = false) (W : World) :
    Calls Tryd.prog 66 #[.int .i64 32, .int .u64 (a : Int)] W fun e W' => e = .returned (.float .f64 (worthN 32 a)) ∧ W' = W := by
  have F := from32
  have E : IntKind.u32.wrap (a : Int) = (a : Int) := by rw [IntKind.wrap_u32]; omega
  have V : ∀ w, (convert 91 68 (.float .f32 a)).run Tryd.prog w = .ok (.float .f64 (worthN 32 a)) w := fun w => wide_num _ _ _ isSome54 Tryd.underlying68 a hn w
  generalize worthN 32 a = x at *
  go_enter Tryd.func66, Tryd.ntmps66
  go_wp2_with (simp only [V])
  go_ret
  exact ⟨rfl, rfl⟩
set_option maxHeartbeats 1000000 in
theorem worth32x {a : Nat} (ha : a < 2 ^ 32) (hn : na 32 a = true) (W : World) :
    Calls Tryd.prog 66 #[.int .i64 32, .int .u64 (a : Int)] W (WorPost 32 a W) := by
  have F := from32
  have E : IntKind.u32.wrap (a : Int) = (a : Int) := by rw [IntKind.wrap_u32]; omega
  have V : ∀ w, (convert 91 68 (.float .f32 a)).run Tryd.prog w = .ok (.float .f64 ((Question.nanConv .f64 a).cut (w.tape w.drawn (.nanConv .f64 a)))) w.drew := fun w => conv_nan _ _ _ .f32 .f64 (by decide) isSome54 Tryd.underlying68 a _ _ (read_nan good_single (na_true hn)) w
  have T := tape64 (q := .nanConv .f64 a) (fun t => rfl) W
  go_enter Tryd.func66, Tryd.ntmps66
  go_wp2_with (simp only [V])
  go_ret
  exact ⟨_, rfl, ⟨T.2, fun _ => T.1, fun h => by rw [hn] at h; cases h⟩, (Below.refl _ _).drew⟩

theorem worth_calls {w a : Nat} (hw : IsW w) (ha : a < 2 ^ w) (W : World) :
    Calls Tryd.prog 66 #[.int .i64 (w : Int), .int .u64 (a : Int)] W (WorPost w a W) := by
  rcases hw with rfl | rfl
  · cases hn : na 32 a with
    | true => exact worth32x ha hn W
    | false =>
      refine (worth32n ha hn W).mono ?_
      rintro e W' ⟨rfl, rfl⟩
      refine ⟨_, rfl, ⟨?_, fun h => (by rw [hn] at h; cases h), fun _ => rfl⟩, Below.refl _ _⟩
      have h1 : rung Ieee.single a ≤ Ieee.single.infRung := na_false hn
      have := prom_le h1
      have hsw := inf_lt_sw Ieee.double
      exact Ieee.double.word_lt _ (by omega)
  · refine (worth64 ha W).mono ?_
    rintro e W' ⟨rfl, rfl⟩
    exact ⟨_, rfl, ⟨ha, fun h => h, fun _ => rfl⟩, Below.refl _ _⟩

/-! bitsOf -/

def BkPost (w x : Nat) (W : World) (e : Ending) (W' : World) : Prop := ∃ r : Nat, e = .returned (.int .u64 (r : Int)) ∧ Bk w x r ∧ Below W.heap.size W W'

set_option maxHeartbeats 1000000 in
theorem bitsOf64 {x : Nat} (hx : x < 2 ^ 64) (W : World) :
    Calls Tryd.prog 78 #[.int .i64 64, .float .f64 x] W fun e W' => e = .returned (.int .u64 (x : Int)) ∧ W' = W := by
  have F := bits64
  go_enter Tryd.func78, Tryd.ntmps78
  go_wp2
  go_ret
  exact ⟨rfl, rfl⟩
theorem back_lt (x : Nat) : back 32 x < 2 ^ 32 := by
  have h := dem_le (rung Ieee.double x)
  have hsw := inf_lt_sw Ieee.single
  unfold back
  rw [if_pos rfl]
  exact Ieee.single.word_lt _ (by omega)
set_option maxHeartbeats 1000000 in
theorem bitsOf32n {x : Nat} (hn : na 64 x = false) (hf : Fits 32 x) (W : World) :
    Calls Tryd.prog 78 #[.int .i64 32, .float .f64 x] W fun e W' => e = .returned (.int .u64 (back 32 x : Int)) ∧ W' = W := by
  have F := bits32
  have V : ∀ w, (convert 68 91 (.float .f64 x)).run Tryd.prog w = .ok (.float .f32 (back 32 x)) w := fun w => narrow_num _ _ _ isSome44 Tryd.underlying91 x hn hf w
  have hb := back_lt x
  generalize back 32 x = r at *
  have E : IntKind.u64.wrap (r : Int) = (r : Int) := by rw [IntKind.wrap_u64]; omega
  clear hf hn hb
  go_enter Tryd.func78, Tryd.ntmps78
  go_wp2_with (simp only [V])
  go_ret
  exact ⟨rfl, rfl⟩
set_option maxHeartbeats 1000000 in
theorem bitsOf32x {x : Nat} (hn : na 64 x = true) (W : World) :
    Calls Tryd.prog 78 #[.int .i64 32, .float .f64 x] W (BkPost 32 x W) := by
  have F := bits32
  have V : ∀ w, (convert 68 91 (.float .f64 x)).run Tryd.prog w = .ok (.float .f32 ((Question.nanConv .f32 x).cut (w.tape w.drawn (.nanConv .f32 x)))) w.drew := fun w => conv_nan _ _ _ .f64 .f32 (by decide) isSome44 Tryd.underlying91 x _ _ (read_nan good_double (na_true hn)) w
  have T := tape32 (q := .nanConv .f32 x) (fun t => rfl) W
  have E : IntKind.u64.wrap (((Question.nanConv .f32 x).cut (W.tape W.drawn (.nanConv .f32 x)) : Nat) : Int) = (((Question.nanConv .f32 x).cut (W.tape W.drawn (.nanConv .f32 x)) : Nat) : Int) := by rw [IntKind.wrap_u64]; omega
  have E := hide E
  have T := hide T
  go_enter Tryd.func78, Tryd.ntmps78
  go_wp2_with (simp only [V])
  go_ret
  exact ⟨_, rfl, ⟨T.out.2, fun _ => T.out.1, fun h => (by rw [hn] at h; cases h)⟩, (Below.refl _ _).drew⟩

theorem bitsOf_calls {w x : Nat} (hw : IsW w) (hx : x < 2 ^ 64) (hf : Fits w x) (W : World) :
    Calls Tryd.prog 78 #[.int .i64 (w : Int), .float .f64 x] W (BkPost w x W) := by
  rcases hw with rfl | rfl
  · cases hn : na 64 x with
    | true => exact bitsOf32x hn W
    | false =>
      refine (bitsOf32n hn hf W).mono ?_
      rintro e W' ⟨rfl, rfl⟩
      exact ⟨_, rfl, ⟨back_lt x, fun h => (by rw [hn] at h; cases h), fun _ => rfl⟩, Below.refl _ _⟩
  · refine (bitsOf64 hx W).mono ?_
    rintro e W' ⟨rfl, rfl⟩
    exact ⟨_, rfl, ⟨hx, fun h => h, fun _ => rfl⟩, Below.refl _ _⟩

/-! roots -/

def SqPost (x : Nat) (W : World) (e : Ending) (W' : World) : Prop := ∃ y : Nat, e = .returned (.float .f64 y) ∧ Sq x y ∧ Below W.heap.size W W'

theorem sqrt_some {x r : Nat} (P : Program) (w : World) (hs : FloatKind.f64.format.sqrt x = some r) : (Extern.MathSqrt.sqrt #[.float .f64 x]).run P w = .ok (.float .f64 r) w := by
  show (match FloatKind.f64.format.sqrt x with | some r => _ | none => _ : Sem Value).run P w = _
  rw [hs]
  rfl
theorem sqrt_none {x : Nat} (P : Program) (w : World) (hs : FloatKind.f64.format.sqrt x = none) : (Extern.MathSqrt.sqrt #[.float .f64 x]).run P w = .ok (.float .f64 ((Question.nanBits .f64 x x).cut (w.tape w.drawn (.nanBits .f64 x x)))) w.drew := by
  show (match FloatKind.f64.format.sqrt x with | some r => _ | none => _ : Sem Value).run P w = _
  rw [hs]
  rfl
theorem sqrt_run (x : Nat) (hx : x < 2 ^ 64) (w : World) : ∃ y : Nat, ∃ w' : World, (callFunc 117 #[.float .f64 x]).run Tryd.prog w = .ok (.value (.float .f64 y)) w' ∧ Sq x y ∧ (w' = w ∨ w' = w.drew) := by
  rw [run_callFunc_extern Tryd.func117 (by kernel_rfl) (by kernel_rfl) (by kernel_rfl) (e := Extern.MathSqrt.sqrt) (by kernel_rfl)]
  cases hs : FloatKind.f64.format.sqrt x with
  | some r =>
    refine ⟨r, w, ?_, ?_, .inl rfl⟩
    · rw [sqrt_some _ _ hs]; rfl
    · change Ieee.double.sqrt x = some r at hs
      cases hn : na 64 x with
      | true =>
        exfalso
        unfold Ieee.Format.sqrt at hs
        rw [read_nan good_double (na_true hn)] at hs
        cases hs
      | false =>
        have h1 : rung Ieee.double x ≤ Ieee.double.infRung := na_false hn
        rw [sqrt_word hx h1] at hs
        by_cases c : neg Ieee.double x = true ∧ rung Ieee.double x ≠ 0
        · rw [if_pos c] at hs; cases hs
        · rw [if_neg c] at hs
          cases hs
          have hle := sqR_le (rung Ieee.double x)
          have hsw := inf_lt_sw Ieee.double
          refine ⟨Ieee.double.word_lt _ (by omega), fun h => ?_, fun _ => rfl⟩
          exfalso
          rw [hn] at h
          simp at h
          exact c h
  | none =>
    have T := tape64 (q := .nanBits .f64 x x) (fun t => rfl) w
    refine ⟨_, w.drew, by rw [sqrt_none _ _ hs]; rfl, ⟨T.2, fun _ => T.1, fun h => ?_⟩, .inr rfl⟩
    exfalso
    change Ieee.double.sqrt x = none at hs
    simp only [Bool.or_eq_false_iff] at h
    have h1 : rung Ieee.double x ≤ Ieee.double.infRung := na_false h.1
    rw [sqrt_word hx h1, if_neg (by rintro ⟨c1, c2⟩; have := h.2; simp [c1, c2] at this)] at hs
    cases hs

theorem below_or {W w' : World} (h : w' = W ∨ w' = W.drew) : Below W.heap.size W w' := by
  rcases h with rfl | rfl
  · exact Below.refl _ _
  · exact (Below.refl _ _).drew

set_option maxHeartbeats 1000000 in
theorem Sqrt_calls {x : Nat} (hx : x < 2 ^ 64) (W : World) :
    Calls Tryd.prog 79 #[.float .f64 x] W (SqPost x W) := by
  obtain ⟨y, W1, hr, hy, hW⟩ := sqrt_run x hx W
  have HY := hide hy
  have HW := hide (below_or hW)
  clear hy hW
  go_enter Tryd.func79, Tryd.ntmps79
  go_wp2
  go_ret
  exact ⟨y, rfl, HY.out, HW.out⟩

/-! roundings -/

def WhlPost (way : Ieee.Toward) (x : Nat) (W : World) (e : Ending) (W' : World) : Prop := ∃ y : Nat, e = .returned (.float .f64 y) ∧ Whl way x y ∧ Below W.heap.size W W'

theorem int_number {x : Nat} (name : String) (way : Ieee.Toward) (P : Program) (w : World) {s : Bool} {m : Nat} {i : Int} (h : FloatKind.f64.decode x = .number s m i) : (Extern.MathFloor.toIntegral name way #[.float .f64 x]).run P w = .ok (.float .f64 (Ieee.double.write ((Ieee.Datum.number s m i).integral way))) w := by
  show (match FloatKind.f64.decode x with | .nan s t => _ | d => _ : Sem Value).run P w = _
  rw [h]
  rfl
theorem int_inf {x : Nat} (name : String) (way : Ieee.Toward) (P : Program) (w : World) {s : Bool} (h : FloatKind.f64.decode x = .infinity s) : (Extern.MathFloor.toIntegral name way #[.float .f64 x]).run P w = .ok (.float .f64 (Ieee.double.write (.infinity s))) w := by
  show (match FloatKind.f64.decode x with | .nan s t => _ | d => _ : Sem Value).run P w = _
  rw [h]
  rfl
theorem int_nan {x : Nat} (name : String) (way : Ieee.Toward) (P : Program) (w : World) {s : Bool} {t : Nat} (h : FloatKind.f64.decode x = .nan s t) : ∃ y : Nat, ∃ w' : World, (Extern.MathFloor.toIntegral name way #[.float .f64 x]).run P w = .ok (.float .f64 y) w' ∧ (y = x ∨ y = Ieee.double.write (.nan s (Ieee.double.quiet t))) ∧ (w' = w ∨ w' = w.drew) := by
  show ∃ y w', (match FloatKind.f64.decode x with | .nan s t => _ | d => _ : Sem Value).run P w = _ ∧ _
  rw [h]
  by_cases c : FloatKind.f64.format.quiet t = t
  · exact ⟨x, w, by simp only [if_pos c]; rfl, .inl rfl, .inl rfl⟩
  · simp only [if_neg c, Sem.run_bind, run_choose_drew]
    generalize Question.cut _ _ = k
    by_cases d : (k == 1) = true
    · refine ⟨x, w.drew, ?_, .inl rfl, .inr rfl⟩
      show Result.ok (Value.float FloatKind.f64 (if (k == 1) = true then x else _)) w.drew = _
      rw [if_pos d]
    · refine ⟨_, w.drew, ?_, .inr rfl, .inr rfl⟩
      show Result.ok (Value.float FloatKind.f64 (if (k == 1) = true then x else _)) w.drew = _
      rw [if_neg d]
      rfl
theorem integral_run (name : String) (way : Ieee.Toward) (x : Nat) (hx : x < 2 ^ 64) (P : Program) (w : World) : ∃ y : Nat, ∃ w' : World, ((Extern.MathFloor.toIntegral name way #[.float .f64 x]).run P w) = .ok (.float .f64 y) w' ∧ Whl way x y ∧ (w' = w ∨ w' = w.drew) := by
  cases hn : na 64 x with
  | false =>
    have h1 : rung Ieee.double x ≤ Ieee.double.infRung := na_false hn
    have hle := roundF_le good_double way (neg Ieee.double x) h1
    have hsw := inf_lt_sw Ieee.double
    have hi := integral_word way h1
    refine ⟨Ieee.double.word (neg Ieee.double x) (roundF Ieee.double way (neg Ieee.double x) (rung Ieee.double x)), w, ?_, ⟨Ieee.double.word_lt _ (by omega), fun h => (by rw [hn] at h; cases h), fun _ => rfl⟩, .inl rfl⟩
    rw [← hi]
    rcases Nat.lt_or_ge (rung Ieee.double x) Ieee.double.infRung with c | c
    · obtain ⟨m, k, _, _, _, hr⟩ := parts_of good_double c
      have hd : FloatKind.f64.decode x = .number (neg Ieee.double x) m (Ieee.double.leastPlace + k) := hr x rfl
      rw [int_number _ _ _ _ hd, hr x rfl]
    · have ei : rung Ieee.double x = Ieee.double.infRung := by omega
      have hd : FloatKind.f64.decode x = .infinity (neg Ieee.double x) := read_inf good_double ei
      rw [int_inf _ _ _ _ hd, read_inf good_double ei]
      rfl
  | true =>
    have h1 := na_true hn
    have hd : FloatKind.f64.decode x = .nan (neg Ieee.double x) (rung Ieee.double x - Ieee.double.infRung) := read_nan good_double h1
    have hlt : rung Ieee.double x < Ieee.double.signWeight := rung_lt _ _
    have hib := Ieee.double.infRung_add_binade
    have hnum : ∀ z : Nat, na 64 x = false → z = Ieee.double.word (neg Ieee.double x) (roundF Ieee.double way (neg Ieee.double x) (rung Ieee.double x)) := fun z h => by rw [hn] at h; cases h
    obtain ⟨y, w', hr, hy, hw⟩ := int_nan name way P w hd
    refine ⟨y, w', hr, ?_, hw⟩
    rcases hy with rfl | rfl
    · exact ⟨hx, fun h => h, hnum _⟩
    · refine ⟨Ieee.double.write_lt _, fun _ => ?_, hnum _⟩
      show decide (Ieee.double.infRung < rung Ieee.double (Ieee.double.word _ (Ieee.double.infRung + _ % Ieee.double.binade))) = true
      have hm : ∀ t : Nat, t % Ieee.double.binade < Ieee.double.binade := fun t => Nat.mod_lt _ (binade_pos _)
      rw [rung_word _ _ (by have := hm (Ieee.double.quiet (rung Ieee.double x - Ieee.double.infRung)); omega)]
      apply decide_eq_true
      have h51 : ∀ t : Nat, 0 < Ieee.double.quiet t % Ieee.double.binade := fun t => by
        have hb : (Ieee.double.quiet t % Ieee.double.binade).testBit 51 = true := by
          rw [show Ieee.double.binade = 2 ^ 52 from rfl, Nat.testBit_mod_two_pow]
          show (decide (51 < 52) && (t ||| 2 ^ 51).testBit 51) = true
          rw [Nat.testBit_or, Nat.testBit_two_pow_self]
          simp
        rcases Nat.eq_zero_or_pos (Ieee.double.quiet t % Ieee.double.binade) with c | c
        · rw [c] at hb; simp at hb
        · exact c
      have := h51 (rung Ieee.double x - Ieee.double.infRung)
      omega

theorem arch_run (f : Nat) (fn : Func) (name : String) (way : Ieee.Toward) (hf : Tryd.prog.funcs[f]? = some fn) (hname : (fn.name == "runtime.NumGoroutine") = false)
    (hb : fn.body.isNone = true) (hn : Extern.findNext fn = none) (he : Extern.find fn = some (Extern.MathFloor.toIntegral name way)) (x : Nat) (hx : x < 2 ^ 64) (w : World) :
    ∃ y : Nat, ∃ w' : World, (callFunc f #[.float .f64 x]).run Tryd.prog w = .ok (.value (.float .f64 y)) w' ∧ Whl way x y ∧ (w' = w ∨ w' = w.drew) := by
  obtain ⟨y, w', hr, hy, hw⟩ := integral_run name way x hx Tryd.prog w
  refine ⟨y, w', ?_, hy, hw⟩
  rw [run_callFunc_extern hf hname hb hn he, hr]
  rfl

set_option maxRecDepth 100000 in
set_option maxHeartbeats 1000000 in
theorem Ceil_calls {x : Nat} (hx : x < 2 ^ 64) (W : World) :
    Calls Tryd.prog 80 #[.float .f64 x] W (WhlPost .up x W) := by
  obtain ⟨y, W1, hr, hy, hW⟩ := arch_run 118 _ "math.archCeil" .up Tryd.func118 (by kernel_rfl) (by kernel_rfl) (by kernel_rfl) (by kernel_rfl) x hx W
  have HY := hide hy
  have HW := hide (below_or hW)
  clear hy hW
  go_enter Tryd.func80, Tryd.ntmps80
  go_wp2
  go_ret
  exact ⟨y, rfl, HY.out, HW.out⟩
set_option maxRecDepth 100000 in
set_option maxHeartbeats 1000000 in
theorem Floor_calls {x : Nat} (hx : x < 2 ^ 64) (W : World) :
    Calls Tryd.prog 81 #[.float .f64 x] W (WhlPost .down x W) := by
  obtain ⟨y, W1, hr, hy, hW⟩ := arch_run 120 _ "math.archFloor" .down Tryd.func120 (by kernel_rfl) (by kernel_rfl) (by kernel_rfl) (by kernel_rfl) x hx W
  have HY := hide hy
  have HW := hide (below_or hW)
  clear hy hW
  go_enter Tryd.func81, Tryd.ntmps81
  go_wp2
  go_ret
  exact ⟨y, rfl, HY.out, HW.out⟩
set_option maxRecDepth 100000 in
set_option maxHeartbeats 1000000 in
theorem Trunc_calls {x : Nat} (hx : x < 2 ^ 64) (W : World) :
    Calls Tryd.prog 82 #[.float .f64 x] W (WhlPost .zero x W) := by
  obtain ⟨y, W1, hr, hy, hW⟩ := arch_run 122 _ "math.archTrunc" .zero Tryd.func122 (by kernel_rfl) (by kernel_rfl) (by kernel_rfl) (by kernel_rfl) x hx W
  have HY := hide hy
  have HW := hide (below_or hW)
  clear hy hW
  go_enter Tryd.func82, Tryd.ntmps82
  go_wp2
  go_ret
  exact ⟨y, rfl, HY.out, HW.out⟩
theorem even_run {x : Nat} (hx : x < 2 ^ 64) (w : World) : ∃ y : Nat, ∃ w' : World, (callFunc 83 #[.float .f64 x]).run Tryd.prog w = .ok (.value (.float .f64 y)) w' ∧ Whl .even x y ∧ (w' = w ∨ w' = w.drew) :=
  arch_run 83 _ "math.RoundToEven" .even Tryd.func83 (by kernel_rfl) (by kernel_rfl) (by kernel_rfl) (by kernel_rfl) x hx w
end Go.Proofs.YtpeckiaimellmaaDoor.F
