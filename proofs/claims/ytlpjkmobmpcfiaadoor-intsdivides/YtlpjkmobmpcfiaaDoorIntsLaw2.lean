/-
  What the laws without the document's answer call: width, of, two, One, Than, in the laws' form.
-/
import Derived.Test.YtlpjkmobmpcfiaaDoorIntsLaw1
set_option linter.unusedVariables false
set_option linter.unusedSimpArgs false
namespace Go.Proofs.YtlpjkmobmpcfiaaDoor
open Go.RowKit Ints

theorem cut_of (w : Nat) (n : Int) : Of w (cutI w n) := by
  have hp : (0 : Int) < 2 ^ w := by exact_mod_cast Nat.two_pow_pos w
  exact ⟨Int.emod_nonneg _ (by omega), Int.emod_lt_of_pos _ hp⟩
theorem cut_self {w : Nat} {a : Int} (h : Of w a) : cutI w a = a := Int.emod_eq_of_lt h.1 h.2

theorem cut_add_l (w : Nat) (x y : Int) : cutI w (cutI w x + y) = cutI w (x + y) := by unfold cutI; exact Int.emod_add_emod ..
theorem cut_add_r (w : Nat) (x y : Int) : cutI w (x + cutI w y) = cutI w (x + y) := by unfold cutI; exact Int.add_emod_emod ..
theorem cut_mul_l (w : Nat) (x y : Int) : cutI w (cutI w x * y) = cutI w (x * y) := by unfold cutI; rw [Int.mul_emod, Int.emod_emod_of_dvd _ (Int.dvd_refl _), ← Int.mul_emod]
theorem cut_mul_r (w : Nat) (x y : Int) : cutI w (x * cutI w y) = cutI w (x * y) := by unfold cutI; rw [Int.mul_emod, Int.emod_emod_of_dvd _ (Int.dvd_refl _), ← Int.mul_emod]
theorem cut_sub_l (w : Nat) (x y : Int) : cutI w (cutI w x - y) = cutI w (x - y) := by unfold cutI; exact Int.emod_sub_emod ..

theorem wf8_hi {n : Int} (h : (Lit.int .u8 n).wf = true) : n ≤ 255 := ((Lit.wf_int_iff _ _).1 h).2

/-- The law's width. -/
def wd (n : Int) : Nat := 8 * 2 ^ (n % 4).toNat

theorem wd_isW (n : Int) : IsW (wd n) := by
  unfold wd IsW
  rcases (show n % 4 = 0 ∨ n % 4 = 1 ∨ n % 4 = 2 ∨ n % 4 = 3 by omega) with h | h | h | h <;> rw [h] <;> decide

set_option maxRecDepth 100000 in
set_option maxHeartbeats 1000000 in
theorem lwidth_calls (n : Int) (h0 : 0 ≤ n) (W : World) :
    Calls Tryd.prog 20 #[.int .u8 n] W fun e W' => e = .returned (.int .i64 (wd n : Int)) ∧ W' = W := by
  have E : n.tmod 4 = n % 4 := Int.tmod_eq_emod_of_nonneg h0
  unfold wd
  clear h0
  rcases (show n % 4 = 0 ∨ n % 4 = 1 ∨ n % 4 = 2 ∨ n % 4 = 3 by omega) with h | h | h | h
  all_goals
    rw [h] at E
    rw [h]
    clear h
    go_enter Tryd.func20, Tryd.ntmps20
    go_wp2
    go_ret
    exact ⟨rfl, rfl⟩

set_option maxRecDepth 100000 in
set_option maxHeartbeats 1000000 in
theorem lof_calls {w : Nat} (hw : IsW w) (a : Int) (h0 : 0 ≤ a) (h1 : a < 18446744073709551616) (W : World) :
    Calls Tryd.prog 21 #[.int .i64 (w : Int), .int .u64 a] W fun e W' => e = .returned (.int .u64 (cutI w a)) ∧ W' = W := by
  have E := and_mo hw a h0 h1
  clear h0 h1
  rcases hw with rfl | rfl | rfl | rfl
  · have E2 : bits .and .u64 a 255 = cutI 8 a := E
    clear E
    go_enter Tryd.func21, Tryd.ntmps21
    go_wp2
    go_ret
    exact ⟨congrArg (fun z => Ending.returned (.int .u64 z)) (by first | exact E2 | rfl), rfl⟩
  · have E2 : bits .and .u64 a 65535 = cutI 16 a := E
    clear E
    go_enter Tryd.func21, Tryd.ntmps21
    go_wp2
    go_ret
    exact ⟨congrArg (fun z => Ending.returned (.int .u64 z)) (by first | exact E2 | rfl), rfl⟩
  · have E2 : bits .and .u64 a 4294967295 = cutI 32 a := E
    clear E
    go_enter Tryd.func21, Tryd.ntmps21
    go_wp2
    go_ret
    exact ⟨congrArg (fun z => Ending.returned (.int .u64 z)) (by first | exact E2 | rfl), rfl⟩
  · have E2 : bits .and .u64 a 18446744073709551615 = cutI 64 a := E
    clear E
    go_enter Tryd.func21, Tryd.ntmps21
    go_wp2
    go_ret
    exact ⟨congrArg (fun z => Ending.returned (.int .u64 z)) (by first | exact E2 | rfl), rfl⟩

theorem ones_of {w : Nat} (hw : IsW w) : cutI w 18446744073709551615 = mo w := by rcases hw with rfl | rfl | rfl | rfl <;> decide

/-- ints.Two, from a base. -/
theorem Two_from {W0 : World} (hT : Tabs W0) {w : Nat} (hw : IsW w) (op a b : Int) (ho : 0 ≤ op) (ha : Of w a) (hb : Of w b) (x e : Int) (hx : two op.toNat w a b = (x, e)) (W : World) (hB : Below W0.heap.size W0 W) :
    Calls Tryd.prog 9 #[.int .u8 op, .int .i64 (w : Int), .int .u64 a, .int .u64 b] W fun r W' => r = .returned (.tuple #[.int .u64 x, .int .i64 e]) ∧ Below W0.heap.size W0 W' := by
  have h := Two_calls hw op a b ho ha hb W (hT.later hB)
  rw [hx] at h
  exact h.mono fun e W' ⟨he, hk⟩ => ⟨he, below_from hB hk⟩

theorem One_from {W0 : World} (hT : Tabs W0) {w : Nat} (hw : IsW w) (op a : Int) (ho : 0 ≤ op) (ha : Of w a) (x e : Int) (hx : one op.toNat w a = (x, e)) (W : World) (hB : Below W0.heap.size W0 W) :
    Calls Tryd.prog 12 #[.int .u8 op, .int .i64 (w : Int), .int .u64 a] W fun r W' => r = .returned (.tuple #[.int .u64 x, .int .i64 e]) ∧ Below W0.heap.size W0 W' := by
  have h := One_calls hw op a ho ha W (hT.later hB)
  rw [hx] at h
  exact h.mono fun e W' ⟨he, hk⟩ => ⟨he, below_from hB hk⟩

theorem Than_from {W0 : World} (hT : Tabs W0) {w : Nat} (hw : IsW w) (op a b : Int) (ho : 0 ≤ op) (ha : Of w a) (hb : Of w b) (x : Bool) (e : Int) (hx : than op.toNat w a b = (x, e)) (W : World) (hB : Below W0.heap.size W0 W) :
    Calls Tryd.prog 14 #[.int .u8 op, .int .i64 (w : Int), .int .u64 a, .int .u64 b] W fun r W' => r = .returned (.tuple #[.bool x, .int .i64 e]) ∧ Below W0.heap.size W0 W' := by
  have h := Than_calls hw op a b ho ha hb W (hT.later hB)
  rw [hx] at h
  exact h.mono fun e W' ⟨he, hk⟩ => ⟨he, below_from hB hk⟩

set_option maxRecDepth 100000 in
set_option maxHeartbeats 1000000 in
/-- The law's 'two'. -/
theorem ltwo_calls {W0 : World} (hT : Tabs W0) {w : Nat} (hw : IsW w) (op a b : Int) (ho : 0 ≤ op) (ha : Of w a) (hb : Of w b) (x e : Int) (hx : two op.toNat w a b = (x, e)) (W : World) (hB : Below W0.heap.size W0 W) :
    Calls Tryd.prog 22 #[.int .u8 op, .int .i64 (w : Int), .int .u64 a, .int .u64 b] W fun r W' => r = .returned (.int .u64 x) ∧ Below W0.heap.size W0 W' := by
  have C := hide (Two_from hT hw op a b ho ha hb x e hx W hB)
  clear hB hT ho ha hb hx
  go_enter Tryd.func22, Tryd.ntmps22
  go_wp2_with (with_reducible refine (C.out).mono ?_; rintro e w1 ⟨rfl, hb⟩; have HB := hide hb; clear hb)
  go_ret
  exact ⟨rfl, HB.out⟩
end Go.Proofs.YtlpjkmobmpcfiaaDoor
