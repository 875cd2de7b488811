/-
  The small functions of floats.
-/
import Derived.Test.YtpeckiaimellmaaDoorFFloBitsP
import Derived.Test.YtpeckiaimellmaaDoorChecked
import Derived.WalkKit
import Derived.WalkLawsBesides
import Derived.Laws.BitsLemmas
import Derived.Laws.Bits64b
import Derived.Laws.Rows
import Derived.Laws.Externs
import Derived.Deep.Draws
set_option linter.unusedVariables false
set_option linter.unusedSimpArgs false
namespace Go.Proofs.YtpeckiaimellmaaDoor.F
open Go.RowKit Flo

structure Hide (p : Prop) : Prop where out : p
theorem hide {p : Prop} (h : p) : Hide p := ⟨h⟩

theorem mkFunc (fn : Fn) (first cap : Array Value) (w : World) : (Instr.makeFunc fn first cap).run Tryd.prog w = .ok (.func fn first cap) w := rfl

theorem from32 (n : Int) (w : World) : (callFunc 108 #[.int .u32 n]).run Tryd.prog w = .ok (.value (.float .f32 n.toNat)) w := by
  rw [run_callFunc_extern Tryd.func108 (by kernel_rfl) (by kernel_rfl) (by kernel_rfl) (e := Extern.MathFloatBits.float32frombits) (by kernel_rfl)]
  rfl
theorem from64 (n : Int) (w : World) : (callFunc 110 #[.int .u64 n]).run Tryd.prog w = .ok (.value (.float .f64 n.toNat)) w := by
  rw [run_callFunc_extern Tryd.func110 (by kernel_rfl) (by kernel_rfl) (by kernel_rfl) (e := Extern.MathFloatBits.float64frombits) (by kernel_rfl)]
  rfl
theorem bits32 (b : Nat) (w : World) : (callFunc 99 #[.float .f32 b]).run Tryd.prog w = .ok (.value (.int .u32 b)) w := by
  rw [run_callFunc_extern Tryd.func99 (by kernel_rfl) (by kernel_rfl) (by kernel_rfl) (e := Extern.MathFloatBits.float32bits) (by kernel_rfl)]
  rfl
theorem bits64 (b : Nat) (w : World) : (callFunc 95 #[.float .f64 b]).run Tryd.prog w = .ok (.value (.int .u64 b)) w := by
  rw [run_callFunc_extern Tryd.func95 (by kernel_rfl) (by kernel_rfl) (by kernel_rfl) (e := Extern.MathFloatBits.float64bits) (by kernel_rfl)]
  rfl

set_option maxHeartbeats 400000 in
theorem signBit_calls {w : Nat} (hw : IsW w) (W : World) :
    Calls Tryd.prog 65 #[.int .i64 (w : Int)] W fun e W' => e = .returned (.int .u64 (signN w : Int)) ∧ W' = W := by
  rcases hw with rfl | rfl <;>
  · go_enter Tryd.func65, Tryd.ntmps65
    go_wp2
    go_ret
    exact ⟨rfl, rfl⟩

set_option maxHeartbeats 400000 in
theorem oneNaN_calls {w : Nat} (hw : IsW w) (W : World) :
    Calls Tryd.prog 106 #[.int .i64 (w : Int)] W fun e W' => e = .returned (.int .u64 (nanN w : Int)) ∧ W' = W := by
  rcases hw with rfl | rfl <;>
  · go_enter Tryd.func106, Tryd.ntmps106
    go_wp2
    go_ret
    exact ⟨rfl, rfl⟩

theorem below_alloc2 (W : World) (o p : Obj) : Below W.heap.size W ((W.alloc o).alloc p) :=
  ((Below.refl W.heap.size W).alloc (Nat.le_refl _) o).alloc (((Below.refl W.heap.size W).alloc (Nat.le_refl _) o).size) p
theorem below_two {W0 W W' : World} (h : Below W0.heap.size W0 W) (k : Below W.heap.size W W') : Below W0.heap.size W0 W' :=
  h.trans ⟨k.os, k.tape, k.output, k.size, fun i hi => k.block i (Nat.lt_of_lt_of_le hi h.size)⟩
theorem below_draws (W : World) (n : Nat) : Below W.heap.size W (W.drewN n) := below_drewN (Below.refl _ _) n

set_option maxHeartbeats 400000 in
theorem noNumber_calls {w : Nat} (hw : IsW w) (W : World) :
    Calls Tryd.prog 105 #[.int .i64 (w : Int)] W fun e W' => e = .returned (.func (.func 135) #[] #[.pointer (some ⟨W.heap.size, 0, none⟩), .pointer (some ⟨W.heap.size + 1, 0, none⟩)]) ∧
    W'.cell? ⟨W.heap.size, 0, none⟩ = some (.int .u64 (signN w : Int)) ∧ W'.cell? ⟨W.heap.size + 1, 0, none⟩ = some (.int .u64 (infN w : Int)) ∧ Below W.heap.size W W' := by
  have C := hide (signBit_calls hw)
  have M := mkFunc
  rcases hw with rfl | rfl <;>
  · simp only [show ((32 : Nat) : Int) = 32 from rfl, show ((64 : Nat) : Int) = 64 from rfl, sign32, sign64] at C
    go_enter Tryd.func105, Tryd.ntmps105
    go_wp2_with (with_reducible refine (C.out _).mono ?_; rintro e w1 ⟨rfl, rfl⟩)
    go_ret
    refine ⟨rfl, ?_, ?_, below_alloc2 _ _ _⟩ <;> simp [go_sem] <;> rfl

set_option maxHeartbeats 400000 in
theorem ask_calls {w a : Nat} (hw : IsW w) (ha : a < 2 ^ w) (g h : Nat) (W : World) (h0 : W.cell? ⟨g, 0, none⟩ = some (.int .u64 (signN w : Int))) (h1 : W.cell? ⟨h, 0, none⟩ = some (.int .u64 (infN w : Int))) :
    Calls Tryd.prog 135 #[.int .u64 (a : Int), .pointer (some ⟨g, 0, none⟩), .pointer (some ⟨h, 0, none⟩)] W fun e W' => e = .returned (.bool (na w a)) ∧ W' = W := by
  have E := bits_andNot_sign hw ha
  have T : decide ((rung (fm w) a : Int) > (infN w : Int)) = na w a := by unfold na; congr 1; apply propext; omega
  go_enter Tryd.func135, Tryd.ntmps135
  go_wp2
  go_ret
  refine ⟨?_, rfl⟩
  unfold na
  simp

set_option maxHeartbeats 400000 in
theorem settle_calls {w a : Nat} (hw : IsW w) (ha : a < 2 ^ w) (W : World) :
    Calls Tryd.prog 62 #[.int .i64 (w : Int), .int .u64 (a : Int)] W fun e W' => e = .returned (.int .u64 (cl w a : Int)) ∧ Below W.heap.size W W' := by
  have C := hide (noNumber_calls hw)
  have D := hide (ask_calls hw ha)
  have N := hide (oneNaN_calls hw)
  cases c : na w a
  all_goals
    rw [c] at D
    go_enter Tryd.func62, Tryd.ntmps62
    go_wp2_with (first | (with_reducible refine (C.out _).mono ?_; rintro e w1 ⟨rfl, h0, h1, hb⟩; have H0 := hide h0; have H1 := hide h1; have HB := hide hb; clear h0 h1 hb) | (with_reducible refine (D.out _ _ _ H0.out H1.out).mono ?_; rintro e w2 ⟨rfl, rfl⟩) | (with_reducible refine (N.out _).mono ?_; rintro e w1 ⟨rfl, rfl⟩))
    go_ret
    exact ⟨by simp [cl, c], HB.out⟩
end Go.Proofs.YtpeckiaimellmaaDoor.F
