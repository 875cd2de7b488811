/-
  width, of, two, one, than, none, as the laws call them (genflo.py wrote it).
-/
import Derived.Test.YtgmakjmlkepfbabFloLaw1
set_option linter.unusedVariables false
set_option linter.unusedSimpArgs false
namespace Go.Proofs.Ytgmakjmlkepfbab
open Go.RowKit Flo

def wd (n : Nat) : Nat := if n % 2 = 0 then 32 else 64
theorem wd_isW (n : Nat) : IsW (wd n) := by
  unfold wd IsW
  split <;> simp
theorem cut_lt (w a : Nat) : a % 2 ^ w < 2 ^ w := Nat.mod_lt _ (Nat.two_pow_pos w)

set_option maxRecDepth 100000 in
set_option maxHeartbeats 1000000 in
theorem lwidth_calls (n : Nat) (W : World) :
    Calls Try.prog 7 #[.int .u8 (n : Int)] W fun e W' => e = .returned (.int .i64 (wd n : Int)) ∧ W' = W := by
  have E : (n : Int).tmod 2 = ((n % 2 : Nat) : Int) := by rw [Int.tmod_eq_emod_of_nonneg (by omega)]; omega
  have E' : (n : Int) % 2 = ((n % 2 : Nat) : Int) := by omega
  unfold wd
  rcases (show n % 2 = 0 ∨ n % 2 = 1 by omega) with h | h
  all_goals
    rw [h] at E E'
    rw [h]
    clear h
    try simp only [show ((0 : Nat) : Int) = 0 from rfl, show ((1 : Nat) : Int) = 1 from rfl] at E E'
    go_enter Try.func7, Try.ntmps7
    go_wp2
    go_ret
    exact ⟨rfl, rfl⟩

set_option maxRecDepth 100000 in
set_option maxHeartbeats 1000000 in
theorem lof_calls {w : Nat} (hw : IsW w) (a : Nat) (ha : a < 2 ^ 64) (W : World) :
    Calls Try.prog 8 #[.int .i64 (w : Int), .int .u64 (a : Int)] W fun e W' => e = .returned (.int .u64 ((a % 2 ^ w : Nat) : Int)) ∧ W' = W := by
  rcases hw with rfl | rfl
  · have E2 : bits .and .u64 (a : Int) 4294967295 = ((a % 2 ^ 32 : Nat) : Int) := by
      have := u64_and_nat a 4294967295 (by omega) (by decide)
      rw [show (((4294967295 : Nat)) : Int) = 4294967295 from rfl] at this
      rw [this, show (4294967295 : Nat) = 2 ^ 32 - 1 by decide, Nat.and_two_pow_sub_one_eq_mod]
    generalize a % 2 ^ 32 = r at *
    clear ha
    go_enter Try.func8, Try.ntmps8
    go_wp2
    go_ret
    exact ⟨congrArg (fun z => Ending.returned (.int .u64 z)) (by first | exact E2 | rfl), rfl⟩
  · have E2 : bits .and .u64 (a : Int) 18446744073709551615 = ((a % 2 ^ 64 : Nat) : Int) := by
      have := u64_and_nat a 18446744073709551615 (by omega) (by decide)
      rw [show (((18446744073709551615 : Nat)) : Int) = 18446744073709551615 from rfl] at this
      rw [this, show (18446744073709551615 : Nat) = 2 ^ 64 - 1 by decide, Nat.and_two_pow_sub_one_eq_mod]
    generalize a % 2 ^ 64 = r at *
    clear ha
    go_enter Try.func8, Try.ntmps8
    go_wp2
    go_ret
    exact ⟨congrArg (fun z => Ending.returned (.int .u64 z)) (by first | exact E2 | rfl), rfl⟩

theorem Two_from {W0 : World} {w a b : Nat} (hw : IsW w) (op : Nat) {o : Int} (ho : o = (op : Int)) (ha : a < 2 ^ w) (hb : b < 2 ^ w) {x e : Nat} (hx : two op w a b = (x, e)) (W : World) (hB : Below W0.heap.size W0 W) :
    Calls Try.prog 15 #[.int .u8 o, .int .i64 (w : Int), .int .u64 (a : Int), .int .u64 (b : Int)] W fun r W' => r = .returned (.tuple #[.int .u64 (x : Int), .int .i64 (e : Int)]) ∧ Below W0.heap.size W0 W' := by
  subst ho
  have h := Two_calls hw op ha hb W
  rw [hx] at h
  exact h.mono fun e W' ⟨he, hk⟩ => ⟨he, below_two hB hk⟩
theorem One_from {W0 : World} {w a : Nat} (hw : IsW w) (op : Nat) {o : Int} (ho : o = (op : Int)) (ha : a < 2 ^ w) {x e : Nat} (hx : one op w a = (x, e)) (W : World) (hB : Below W0.heap.size W0 W) :
    Calls Try.prog 16 #[.int .u8 o, .int .i64 (w : Int), .int .u64 (a : Int)] W fun r W' => r = .returned (.tuple #[.int .u64 (x : Int), .int .i64 (e : Int)]) ∧ Below W0.heap.size W0 W' := by
  subst ho
  have h := One_calls hw op ha W
  rw [hx] at h
  exact h.mono fun e W' ⟨he, hk⟩ => ⟨he, below_two hB hk⟩
theorem Than_from {W0 : World} {w a b : Nat} (hw : IsW w) (op : Nat) {o : Int} (ho : o = (op : Int)) (ha : a < 2 ^ w) (hb : b < 2 ^ w) {x : Bool} {e : Nat} (hx : than op w a b = (x, e)) (W : World) (hB : Below W0.heap.size W0 W) :
    Calls Try.prog 17 #[.int .u8 o, .int .i64 (w : Int), .int .u64 (a : Int), .int .u64 (b : Int)] W fun r W' => r = .returned (.tuple #[.bool x, .int .i64 (e : Int)]) ∧ Below W0.heap.size W0 W' := by
  subst ho
  have h := Than_calls hw op ha hb W
  rw [hx] at h
  exact h.mono fun e W' ⟨he, hk⟩ => ⟨he, below_two hB hk⟩
theorem None_from {W0 : World} {w a : Nat} (hw : IsW w) (ha : a < 2 ^ w) {x : Bool} (hx : na w a = x) (W : World) (hB : Below W0.heap.size W0 W) :
    Calls Try.prog 18 #[.int .i64 (w : Int), .int .u64 (a : Int)] W fun r W' => r = .returned (.tuple #[.bool x, .int .i64 0]) ∧ Below W0.heap.size W0 W' := by
  have h := None_calls (w : Int) a (lt64 hw ha) W
  rw [okW_of hw ha, if_pos rfl, show ((w : Int)).toNat = w from Int.toNat_natCast w, hx] at h
  exact h.mono fun e W' ⟨he, hk⟩ => ⟨he, below_two hB hk⟩

set_option maxRecDepth 100000 in
set_option maxHeartbeats 1000000 in
theorem ltwo_calls {W0 : World} {w a b : Nat} (hw : IsW w) (op : Nat) {o : Int} (ho : o = (op : Int)) (ha : a < 2 ^ w) (hb : b < 2 ^ w) {x e : Nat} (hx : two op w a b = (x, e)) (W : World) (hB : Below W0.heap.size W0 W) :
    Calls Try.prog 10 #[.int .u8 o, .int .i64 (w : Int), .int .u64 (a : Int), .int .u64 (b : Int)] W fun r W' => r = .returned (.int .u64 (x : Int)) ∧ Below W0.heap.size W0 W' := by
  have C := hide (Two_from hw op ho ha hb hx W hB)
  clear hB hx ha hw hb ho
  go_enter Try.func10, Try.ntmps10
  go_wp2_with ((with_reducible refine (C.out).mono ?_); rintro e w1 ⟨rfl, hb⟩; have HB := hide hb; clear hb)
  go_ret
  exact ⟨rfl, HB.out⟩

set_option maxRecDepth 100000 in
set_option maxHeartbeats 1000000 in
theorem lone_calls {W0 : World} {w a : Nat} (hw : IsW w) (op : Nat) {o : Int} (ho : o = (op : Int)) (ha : a < 2 ^ w) {x e : Nat} (hx : one op w a = (x, e)) (W : World) (hB : Below W0.heap.size W0 W) :
    Calls Try.prog 13 #[.int .u8 o, .int .i64 (w : Int), .int .u64 (a : Int)] W fun r W' => r = .returned (.int .u64 (x : Int)) ∧ Below W0.heap.size W0 W' := by
  have C := hide (One_from hw op ho ha hx W hB)
  clear hB hx ha hw ho
  go_enter Try.func13, Try.ntmps13
  go_wp2_with ((with_reducible refine (C.out).mono ?_); rintro e w1 ⟨rfl, hb⟩; have HB := hide hb; clear hb)
  go_ret
  exact ⟨rfl, HB.out⟩

set_option maxRecDepth 100000 in
set_option maxHeartbeats 1000000 in
theorem lthan_calls {W0 : World} {w a b : Nat} (hw : IsW w) (op : Nat) {o : Int} (ho : o = (op : Int)) (ha : a < 2 ^ w) (hb : b < 2 ^ w) {x : Bool} {e : Nat} (hx : than op w a b = (x, e)) (W : World) (hB : Below W0.heap.size W0 W) :
    Calls Try.prog 9 #[.int .u8 o, .int .i64 (w : Int), .int .u64 (a : Int), .int .u64 (b : Int)] W fun r W' => r = .returned (.bool x) ∧ Below W0.heap.size W0 W' := by
  have C := hide (Than_from hw op ho ha hb hx W hB)
  clear hB hx ha hw hb ho
  go_enter Try.func9, Try.ntmps9
  go_wp2_with ((with_reducible refine (C.out).mono ?_); rintro e w1 ⟨rfl, hb⟩; have HB := hide hb; clear hb)
  go_ret
  exact ⟨rfl, HB.out⟩

set_option maxRecDepth 100000 in
set_option maxHeartbeats 1000000 in
theorem lnone_calls {W0 : World} {w a : Nat} (hw : IsW w) (ha : a < 2 ^ w) {x : Bool} (hx : na w a = x) (W : World) (hB : Below W0.heap.size W0 W) :
    Calls Try.prog 11 #[.int .i64 (w : Int), .int .u64 (a : Int)] W fun r W' => r = .returned (.bool x) ∧ Below W0.heap.size W0 W' := by
  have C := hide (None_from hw ha hx W hB)
  clear hB hx ha hw
  go_enter Try.func11, Try.ntmps11
  go_wp2_with ((with_reducible refine (C.out).mono ?_); rintro e w1 ⟨rfl, hb⟩; have HB := hide hb; clear hb)
  go_ret
  exact ⟨rfl, HB.out⟩

end Go.Proofs.Ytgmakjmlkepfbab
