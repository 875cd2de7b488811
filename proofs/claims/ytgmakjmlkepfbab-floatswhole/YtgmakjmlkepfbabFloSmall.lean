/-
  The small functions of floats.
-/
import Derived.Test.YtgmakjmlkepfbabFloBits
import Derived.Test.YtgmakjmlkepfbabChecked
import Derived.WalkKit
import Derived.WalkLawsBesides
import Derived.Laws.BitsLemmas
import Derived.Laws.Bits64b
import Derived.Laws.Rows
import Derived.Laws.Externs
import Derived.Deep.Draws
set_option linter.unusedVariables false
set_option linter.unusedSimpArgs false
namespace Go.Proofs.Ytgmakjmlkepfbab
open Go.RowKit Flo

structure Hide (p : Prop) : Prop where out : p
theorem hide {p : Prop} (h : p) : Hide p := ⟨h⟩

theorem mkFunc (fn : Fn) (first cap : Array Value) (w : World) : (Instr.makeFunc fn first cap).run Try.prog w = .ok (.func fn first cap) w := rfl

theorem from32 (n : Int) (w : World) : (callFunc 34 #[.int .u32 n]).run Try.prog w = .ok (.value (.float .f32 n.toNat)) w := by
  rw [run_callFunc_extern Try.func34 (by kernel_rfl) (by kernel_rfl) (by kernel_rfl) (e := Extern.MathFloatBits.float32frombits) (by kernel_rfl)]
  rfl
theorem from64 (n : Int) (w : World) : (callFunc 38 #[.int .u64 n]).run Try.prog w = .ok (.value (.float .f64 n.toNat)) w := by
  rw [run_callFunc_extern Try.func38 (by kernel_rfl) (by kernel_rfl) (by kernel_rfl) (e := Extern.MathFloatBits.float64frombits) (by kernel_rfl)]
  rfl
theorem bits32 (b : Nat) (w : World) : (callFunc 35 #[.float .f32 b]).run Try.prog w = .ok (.value (.int .u32 b)) w := by
  rw [run_callFunc_extern Try.func35 (by kernel_rfl) (by kernel_rfl) (by kernel_rfl) (e := Extern.MathFloatBits.float32bits) (by kernel_rfl)]
  rfl
theorem bits64 (b : Nat) (w : World) : (callFunc 36 #[.float .f64 b]).run Try.prog w = .ok (.value (.int .u64 b)) w := by
  rw [run_callFunc_extern Try.func36 (by kernel_rfl) (by kernel_rfl) (by kernel_rfl) (e := Extern.MathFloatBits.float64bits) (by kernel_rfl)]
  rfl

set_option maxHeartbeats 400000 in
theorem signBit_calls {w : Nat} (hw : IsW w) (W : World) :
    Calls Try.prog 23 #[.int .i64 (w : Int)] W fun e W' => e = .returned (.int .u64 (signN w : Int)) ∧ W' = W := by
  rcases hw with rfl | rfl <;>
  · go_enter Try.func23, Try.ntmps23
    go_wp2
    go_ret
    exact ⟨rfl, rfl⟩

set_option maxHeartbeats 400000 in
theorem oneNaN_calls {w : Nat} (hw : IsW w) (W : World) :
    Calls Try.prog 32 #[.int .i64 (w : Int)] W fun e W' => e = .returned (.int .u64 (nanN w : Int)) ∧ W' = W := by
  rcases hw with rfl | rfl <;>
  · go_enter Try.func32, Try.ntmps32
    go_wp2
    go_ret
    exact ⟨rfl, rfl⟩

theorem below_alloc2 (W : World) (o p : Obj) : Below W.heap.size W ((W.alloc o).alloc p) :=
  ((Below.refl W.heap.size W).alloc (Nat.le_refl _) o).alloc (((Below.refl W.heap.size W).alloc (Nat.le_refl _) o).size) p
theorem below_two {W0 W W' : World} (h : Below W0.heap.size W0 W) (k : Below W.heap.size W W') : Below W0.heap.size W0 W' :=
  h.trans ⟨k.os, k.tape, k.output, k.size, fun i hi => k.block i (Nat.lt_of_lt_of_le hi h.size)⟩
theorem below_draws (W : World) (n : Nat) : Below W.heap.size W (W.drewN n) := below_drewN (Below.refl _ _) n

set_option maxHeartbeats 400000 in
theorem noNumber_calls {w : Nat} (hw : IsW w) (W : World) :
    Calls Try.prog 31 #[.int .i64 (w : Int)] W fun e W' => e = .returned (.func (.func 46) #[] #[.pointer (some ⟨W.heap.size, 0, none⟩), .pointer (some ⟨W.heap.size + 1, 0, none⟩)]) ∧
    W'.cell? ⟨W.heap.size, 0, none⟩ = some (.int .u64 (signN w : Int)) ∧ W'.cell? ⟨W.heap.size + 1, 0, none⟩ = some (.int .u64 (infN w : Int)) ∧ Below W.heap.size W W' := by
  have C := hide (signBit_calls hw)
  have M := mkFunc
  rcases hw with rfl | rfl <;>
  · simp only [show ((32 : Nat) : Int) = 32 from rfl, show ((64 : Nat) : Int) = 64 from rfl, sign32, sign64] at C
    go_enter Try.func31, Try.ntmps31
    go_wp2_with (with_reducible refine (C.out _).mono ?_; rintro e w1 ⟨rfl, rfl⟩)
    go_ret
    refine ⟨rfl, ?_, ?_, below_alloc2 _ _ _⟩ <;> simp [go_sem] <;> rfl

set_option maxHeartbeats 400000 in
theorem ask_calls {w a : Nat} (hw : IsW w) (ha : a < 2 ^ w) (g h : Nat) (W : World) (h0 : W.cell? ⟨g, 0, none⟩ = some (.int .u64 (signN w : Int))) (h1 : W.cell? ⟨h, 0, none⟩ = some (.int .u64 (infN w : Int))) :
    Calls Try.prog 46 #[.int .u64 (a : Int), .pointer (some ⟨g, 0, none⟩), .pointer (some ⟨h, 0, none⟩)] W fun e W' => e = .returned (.bool (na w a)) ∧ W' = W := by
  have E := bits_andNot_sign hw ha
  have T : decide ((rung (fm w) a : Int) > (infN w : Int)) = na w a := by unfold na; congr 1; apply propext; omega
  go_enter Try.func46, Try.ntmps46
  go_wp2
  go_ret
  refine ⟨?_, rfl⟩
  unfold na
  simp

set_option maxHeartbeats 400000 in
theorem settle_calls {w a : Nat} (hw : IsW w) (ha : a < 2 ^ w) (W : World) :
    Calls Try.prog 20 #[.int .i64 (w : Int), .int .u64 (a : Int)] W fun e W' => e = .returned (.int .u64 (cl w a : Int)) ∧ Below W.heap.size W W' := by
  have C := hide (noNumber_calls hw)
  have D := hide (ask_calls hw ha)
  have N := hide (oneNaN_calls hw)
  cases c : na w a
  all_goals
    rw [c] at D
    go_enter Try.func20, Try.ntmps20
    go_wp2_with (first | (with_reducible refine (C.out _).mono ?_; rintro e w1 ⟨rfl, h0, h1, hb⟩; have H0 := hide h0; have H1 := hide h1; have HB := hide hb; clear h0 h1 hb) | (with_reducible refine (D.out _ _ _ H0.out H1.out).mono ?_; rintro e w2 ⟨rfl, rfl⟩) | (with_reducible refine (N.out _).mono ?_; rintro e w1 ⟨rfl, rfl⟩))
    go_ret
    exact ⟨by simp [cl, c], HB.out⟩
end Go.Proofs.Ytgmakjmlkepfbab
