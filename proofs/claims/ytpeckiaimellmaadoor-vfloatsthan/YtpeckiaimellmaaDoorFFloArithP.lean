/-
  floats.arithmetic, floats.reckon, operator by operator (genarith.py wrote it).
-/
import Derived.Test.YtpeckiaimellmaaDoorFFloWaysP
set_option linter.unusedVariables false
set_option linter.unusedSimpArgs false
namespace Go.Proofs.YtpeckiaimellmaaDoor.F
open Go.RowKit Flo

def ArPost (k : FloatKind) (op w a b : Nat) (W : World) (e : Ending) (W' : World) : Prop := ∃ r : Nat, e = .returned (.float k r) ∧ (r < 2 ^ w ∧ cl w r = arN op w a b) ∧ Below W.heap.size W W'
def RePost (op w a b : Nat) (W : World) (e : Ending) (W' : World) : Prop := ∃ r : Nat, e = .returned (.int .u64 (r : Int)) ∧ (r < 2 ^ w ∧ cl w r = arN op w a b) ∧ Below W.heap.size W W'

/-- What the model's operation gives, at a world. -/
theorem arith_run (op w : Nat) (h1 : 1 ≤ op) (h2 : op ≤ 4) (hw : IsW w) (a b : Nat) (W : World) : ∃ r : Nat, ∃ W' : World, (∀ t, (binOp (binOf op) t (.float (kindOf w) a) (.float (kindOf w) b)).run Tryd.prog W = .ok (.float (kindOf w) r) W') ∧ (r < 2 ^ w ∧ cl w r = arN op w a b) ∧ (W' = W ∨ W' = W.drew) := by
  have hb := floatBits_ar op w a b h1 h2
  cases h : floatBits (binOf op) (kindOf w) a b with
  | some r =>
    rw [h] at hb
    refine ⟨r, W, fun t => arith_some _ _ t _ _ _ _ h W, ?_, .inl rfl⟩
    have := gives_some hw h
    exact ⟨this.1, this.2.trans hb⟩
  | none =>
    rw [h] at hb
    have ho : binOf op = .add ∨ binOf op = .sub ∨ binOf op = .mul ∨ binOf op = .quo := by
      rcases (show op = 1 ∨ op = 2 ∨ op = 3 ∨ op = 4 by omega) with rfl | rfl | rfl | rfl <;> simp [binOf]
    refine ⟨_, W.drew, fun t => arith_none _ _ ho t _ _ _ h W, ?_, .inr rfl⟩
    have T : na w ((Question.nanBits (kindOf w) a b).cut (W.tape W.drawn (.nanBits (kindOf w) a b))) = true ∧ (Question.nanBits (kindOf w) a b).cut (W.tape W.drawn (.nanBits (kindOf w) a b)) < 2 ^ w := by
      rcases hw with rfl | rfl
      · exact tape32 (fun t => rfl) W
      · exact tape64 (fun t => rfl) W
    exact ⟨T.2, (cl_nan T.1).trans hb⟩

set_option maxHeartbeats 1000000 in
theorem arithmetic32_1 (a b : Nat) (W : World) :
    Calls Tryd.prog 107 #[.int .u8 1, .float .f32 a, .float .f32 b] W (ArPost .f32 1 32 a b W) := by
  obtain ⟨r, W1, hr, hy, hW⟩ := arith_run 1 32 (by decide) (by decide) (by simp [IsW]) a b W
  have hr' : ∀ t, (binOp .add t (.float .f32 a) (.float .f32 b)).run Tryd.prog W = .ok (.float .f32 r) W1 := hr
  have HY := hide hy
  have HW := hide (below_or hW)
  clear hy hW hr
  go_enter Tryd.func107, Tryd.ntmps107
  go_wp2_with (simp only [hr'])
  go_ret
  exact ⟨r, rfl, HY.out, HW.out⟩
set_option maxHeartbeats 1000000 in
theorem arithmetic32_2 (a b : Nat) (W : World) :
    Calls Tryd.prog 107 #[.int .u8 2, .float .f32 a, .float .f32 b] W (ArPost .f32 2 32 a b W) := by
  obtain ⟨r, W1, hr, hy, hW⟩ := arith_run 2 32 (by decide) (by decide) (by simp [IsW]) a b W
  have hr' : ∀ t, (binOp .sub t (.float .f32 a) (.float .f32 b)).run Tryd.prog W = .ok (.float .f32 r) W1 := hr
  have HY := hide hy
  have HW := hide (below_or hW)
  clear hy hW hr
  go_enter Tryd.func107, Tryd.ntmps107
  go_wp2_with (simp only [hr'])
  go_ret
  exact ⟨r, rfl, HY.out, HW.out⟩
set_option maxHeartbeats 1000000 in
theorem arithmetic32_3 (a b : Nat) (W : World) :
    Calls Tryd.prog 107 #[.int .u8 3, .float .f32 a, .float .f32 b] W (ArPost .f32 3 32 a b W) := by
  obtain ⟨r, W1, hr, hy, hW⟩ := arith_run 3 32 (by decide) (by decide) (by simp [IsW]) a b W
  have hr' : ∀ t, (binOp .mul t (.float .f32 a) (.float .f32 b)).run Tryd.prog W = .ok (.float .f32 r) W1 := hr
  have HY := hide hy
  have HW := hide (below_or hW)
  clear hy hW hr
  go_enter Tryd.func107, Tryd.ntmps107
  go_wp2_with (simp only [hr'])
  go_ret
  exact ⟨r, rfl, HY.out, HW.out⟩
set_option maxHeartbeats 1000000 in
theorem arithmetic32_4 (a b : Nat) (W : World) :
    Calls Tryd.prog 107 #[.int .u8 4, .float .f32 a, .float .f32 b] W (ArPost .f32 4 32 a b W) := by
  obtain ⟨r, W1, hr, hy, hW⟩ := arith_run 4 32 (by decide) (by decide) (by simp [IsW]) a b W
  have hr' : ∀ t, (binOp .quo t (.float .f32 a) (.float .f32 b)).run Tryd.prog W = .ok (.float .f32 r) W1 := hr
  have HY := hide hy
  have HW := hide (below_or hW)
  clear hy hW hr
  go_enter Tryd.func107, Tryd.ntmps107
  go_wp2_with (simp only [hr'])
  go_ret
  exact ⟨r, rfl, HY.out, HW.out⟩
set_option maxHeartbeats 1000000 in
theorem arithmetic64_1 (a b : Nat) (W : World) :
    Calls Tryd.prog 109 #[.int .u8 1, .float .f64 a, .float .f64 b] W (ArPost .f64 1 64 a b W) := by
  obtain ⟨r, W1, hr, hy, hW⟩ := arith_run 1 64 (by decide) (by decide) (by simp [IsW]) a b W
  have hr' : ∀ t, (binOp .add t (.float .f64 a) (.float .f64 b)).run Tryd.prog W = .ok (.float .f64 r) W1 := hr
  have HY := hide hy
  have HW := hide (below_or hW)
  clear hy hW hr
  go_enter Tryd.func109, Tryd.ntmps109
  go_wp2_with (simp only [hr'])
  go_ret
  exact ⟨r, rfl, HY.out, HW.out⟩
set_option maxHeartbeats 1000000 in
theorem arithmetic64_2 (a b : Nat) (W : World) :
    Calls Tryd.prog 109 #[.int .u8 2, .float .f64 a, .float .f64 b] W (ArPost .f64 2 64 a b W) := by
  obtain ⟨r, W1, hr, hy, hW⟩ := arith_run 2 64 (by decide) (by decide) (by simp [IsW]) a b W
  have hr' : ∀ t, (binOp .sub t (.float .f64 a) (.float .f64 b)).run Tryd.prog W = .ok (.float .f64 r) W1 := hr
  have HY := hide hy
  have HW := hide (below_or hW)
  clear hy hW hr
  go_enter Tryd.func109, Tryd.ntmps109
  go_wp2_with (simp only [hr'])
  go_ret
  exact ⟨r, rfl, HY.out, HW.out⟩
set_option maxHeartbeats 1000000 in
theorem arithmetic64_3 (a b : Nat) (W : World) :
    Calls Tryd.prog 109 #[.int .u8 3, .float .f64 a, .float .f64 b] W (ArPost .f64 3 64 a b W) := by
  obtain ⟨r, W1, hr, hy, hW⟩ := arith_run 3 64 (by decide) (by decide) (by simp [IsW]) a b W
  have hr' : ∀ t, (binOp .mul t (.float .f64 a) (.float .f64 b)).run Tryd.prog W = .ok (.float .f64 r) W1 := hr
  have HY := hide hy
  have HW := hide (below_or hW)
  clear hy hW hr
  go_enter Tryd.func109, Tryd.ntmps109
  go_wp2_with (simp only [hr'])
  go_ret
  exact ⟨r, rfl, HY.out, HW.out⟩
set_option maxHeartbeats 1000000 in
theorem arithmetic64_4 (a b : Nat) (W : World) :
    Calls Tryd.prog 109 #[.int .u8 4, .float .f64 a, .float .f64 b] W (ArPost .f64 4 64 a b W) := by
  obtain ⟨r, W1, hr, hy, hW⟩ := arith_run 4 64 (by decide) (by decide) (by simp [IsW]) a b W
  have hr' : ∀ t, (binOp .quo t (.float .f64 a) (.float .f64 b)).run Tryd.prog W = .ok (.float .f64 r) W1 := hr
  have HY := hide hy
  have HW := hide (below_or hW)
  clear hy hW hr
  go_enter Tryd.func109, Tryd.ntmps109
  go_wp2_with (simp only [hr'])
  go_ret
  exact ⟨r, rfl, HY.out, HW.out⟩
set_option maxHeartbeats 1000000 in
theorem reckon32_1 {a b : Nat} (ha : a < 2 ^ 32) (hb : b < 2 ^ 32) (W : World) :
    Calls Tryd.prog 63 #[.int .u8 1, .int .i64 32, .int .u64 (a : Int), .int .u64 (b : Int)] W (RePost 1 32 a b W) := by
  have F := from32
  have G := bits32
  have E1 : IntKind.u32.wrap (a : Int) = (a : Int) := by rw [IntKind.wrap_u32]; omega
  have E2 : IntKind.u32.wrap (b : Int) = (b : Int) := by rw [IntKind.wrap_u32]; omega
  have C := hide (arithmetic32_1 a b)
  clear ha hb
  go_enter Tryd.func63, Tryd.ntmps63
  go_wp2_with ((with_reducible refine (C.out _).mono ?_); rintro e w1 ⟨r, rfl, hr, hb⟩; have HR := hide hr; have HB := hide hb; have E3 : IntKind.u64.wrap (r : Int) = (r : Int) := (by rw [IntKind.wrap_u64]; omega); clear hr hb)
  go_ret
  exact ⟨r, rfl, HR.out, HB.out⟩
set_option maxHeartbeats 1000000 in
theorem reckon64_1 {a b : Nat} (W : World) :
    Calls Tryd.prog 63 #[.int .u8 1, .int .i64 64, .int .u64 (a : Int), .int .u64 (b : Int)] W (RePost 1 64 a b W) := by
  have F := from64
  have G := bits64
  have C := hide (arithmetic64_1 a b)
  go_enter Tryd.func63, Tryd.ntmps63
  go_wp2_with ((with_reducible refine (C.out _).mono ?_); rintro e w1 ⟨r, rfl, hr, hb⟩; have HR := hide hr; have HB := hide hb; clear hr hb)
  go_ret
  exact ⟨r, rfl, HR.out, HB.out⟩
theorem reckon_1 {w a b : Nat} (hw : IsW w) (ha : a < 2 ^ w) (hb : b < 2 ^ w) (W : World) :
    Calls Tryd.prog 63 #[.int .u8 1, .int .i64 (w : Int), .int .u64 (a : Int), .int .u64 (b : Int)] W (RePost 1 w a b W) := by
  rcases hw with rfl | rfl
  · exact reckon32_1 ha hb W
  · exact reckon64_1 W
set_option maxHeartbeats 1000000 in
theorem reckon32_2 {a b : Nat} (ha : a < 2 ^ 32) (hb : b < 2 ^ 32) (W : World) :
    Calls Tryd.prog 63 #[.int .u8 2, .int .i64 32, .int .u64 (a : Int), .int .u64 (b : Int)] W (RePost 2 32 a b W) := by
  have F := from32
  have G := bits32
  have E1 : IntKind.u32.wrap (a : Int) = (a : Int) := by rw [IntKind.wrap_u32]; omega
  have E2 : IntKind.u32.wrap (b : Int) = (b : Int) := by rw [IntKind.wrap_u32]; omega
  have C := hide (arithmetic32_2 a b)
  clear ha hb
  go_enter Tryd.func63, Tryd.ntmps63
  go_wp2_with ((with_reducible refine (C.out _).mono ?_); rintro e w1 ⟨r, rfl, hr, hb⟩; have HR := hide hr; have HB := hide hb; have E3 : IntKind.u64.wrap (r : Int) = (r : Int) := (by rw [IntKind.wrap_u64]; omega); clear hr hb)
  go_ret
  exact ⟨r, rfl, HR.out, HB.out⟩
set_option maxHeartbeats 1000000 in
theorem reckon64_2 {a b : Nat} (W : World) :
    Calls Tryd.prog 63 #[.int .u8 2, .int .i64 64, .int .u64 (a : Int), .int .u64 (b : Int)] W (RePost 2 64 a b W) := by
  have F := from64
  have G := bits64
  have C := hide (arithmetic64_2 a b)
  go_enter Tryd.func63, Tryd.ntmps63
  go_wp2_with ((with_reducible refine (C.out _).mono ?_); rintro e w1 ⟨r, rfl, hr, hb⟩; have HR := hide hr; have HB := hide hb; clear hr hb)
  go_ret
  exact ⟨r, rfl, HR.out, HB.out⟩
theorem reckon_2 {w a b : Nat} (hw : IsW w) (ha : a < 2 ^ w) (hb : b < 2 ^ w) (W : World) :
    Calls Tryd.prog 63 #[.int .u8 2, .int .i64 (w : Int), .int .u64 (a : Int), .int .u64 (b : Int)] W (RePost 2 w a b W) := by
  rcases hw with rfl | rfl
  · exact reckon32_2 ha hb W
  · exact reckon64_2 W
set_option maxHeartbeats 1000000 in
theorem reckon32_3 {a b : Nat} (ha : a < 2 ^ 32) (hb : b < 2 ^ 32) (W : World) :
    Calls Tryd.prog 63 #[.int .u8 3, .int .i64 32, .int .u64 (a : Int), .int .u64 (b : Int)] W (RePost 3 32 a b W) := by
  have F := from32
  have G := bits32
  have E1 : IntKind.u32.wrap (a : Int) = (a : Int) := by rw [IntKind.wrap_u32]; omega
  have E2 : IntKind.u32.wrap (b : Int) = (b : Int) := by rw [IntKind.wrap_u32]; omega
  have C := hide (arithmetic32_3 a b)
  clear ha hb
  go_enter Tryd.func63, Tryd.ntmps63
  go_wp2_with ((with_reducible refine (C.out _).mono ?_); rintro e w1 ⟨r, rfl, hr, hb⟩; have HR := hide hr; have HB := hide hb; have E3 : IntKind.u64.wrap (r : Int) = (r : Int) := (by rw [IntKind.wrap_u64]; omega); clear hr hb)
  go_ret
  exact ⟨r, rfl, HR.out, HB.out⟩
set_option maxHeartbeats 1000000 in
theorem reckon64_3 {a b : Nat} (W : World) :
    Calls Tryd.prog 63 #[.int .u8 3, .int .i64 64, .int .u64 (a : Int), .int .u64 (b : Int)] W (RePost 3 64 a b W) := by
  have F := from64
  have G := bits64
  have C := hide (arithmetic64_3 a b)
  go_enter Tryd.func63, Tryd.ntmps63
  go_wp2_with ((with_reducible refine (C.out _).mono ?_); rintro e w1 ⟨r, rfl, hr, hb⟩; have HR := hide hr; have HB := hide hb; clear hr hb)
  go_ret
  exact ⟨r, rfl, HR.out, HB.out⟩
theorem reckon_3 {w a b : Nat} (hw : IsW w) (ha : a < 2 ^ w) (hb : b < 2 ^ w) (W : World) :
    Calls Tryd.prog 63 #[.int .u8 3, .int .i64 (w : Int), .int .u64 (a : Int), .int .u64 (b : Int)] W (RePost 3 w a b W) := by
  rcases hw with rfl | rfl
  · exact reckon32_3 ha hb W
  · exact reckon64_3 W
set_option maxHeartbeats 1000000 in
theorem reckon32_4 {a b : Nat} (ha : a < 2 ^ 32) (hb : b < 2 ^ 32) (W : World) :
    Calls Tryd.prog 63 #[.int .u8 4, .int .i64 32, .int .u64 (a : Int), .int .u64 (b : Int)] W (RePost 4 32 a b W) := by
  have F := from32
  have G := bits32
  have E1 : IntKind.u32.wrap (a : Int) = (a : Int) := by rw [IntKind.wrap_u32]; omega
  have E2 : IntKind.u32.wrap (b : Int) = (b : Int) := by rw [IntKind.wrap_u32]; omega
  have C := hide (arithmetic32_4 a b)
  clear ha hb
  go_enter Tryd.func63, Tryd.ntmps63
  go_wp2_with ((with_reducible refine (C.out _).mono ?_); rintro e w1 ⟨r, rfl, hr, hb⟩; have HR := hide hr; have HB := hide hb; have E3 : IntKind.u64.wrap (r : Int) = (r : Int) := (by rw [IntKind.wrap_u64]; omega); clear hr hb)
  go_ret
  exact ⟨r, rfl, HR.out, HB.out⟩
set_option maxHeartbeats 1000000 in
theorem reckon64_4 {a b : Nat} (W : World) :
    Calls Tryd.prog 63 #[.int .u8 4, .int .i64 64, .int .u64 (a : Int), .int .u64 (b : Int)] W (RePost 4 64 a b W) := by
  have F := from64
  have G := bits64
  have C := hide (arithmetic64_4 a b)
  go_enter Tryd.func63, Tryd.ntmps63
  go_wp2_with ((with_reducible refine (C.out _).mono ?_); rintro e w1 ⟨r, rfl, hr, hb⟩; have HR := hide hr; have HB := hide hb; clear hr hb)
  go_ret
  exact ⟨r, rfl, HR.out, HB.out⟩
theorem reckon_4 {w a b : Nat} (hw : IsW w) (ha : a < 2 ^ w) (hb : b < 2 ^ w) (W : World) :
    Calls Tryd.prog 63 #[.int .u8 4, .int .i64 (w : Int), .int .u64 (a : Int), .int .u64 (b : Int)] W (RePost 4 w a b W) := by
  rcases hw with rfl | rfl
  · exact reckon32_4 ha hb W
  · exact reckon64_4 W
end Go.Proofs.YtpeckiaimellmaaDoor.F
