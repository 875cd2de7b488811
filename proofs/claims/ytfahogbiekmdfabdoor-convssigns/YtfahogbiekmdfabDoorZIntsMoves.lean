/-
  ints.divide, ints.move, ints.addHeld, ints.subHeld, ints.q15.
-/
import Derived.Test.YtfahogbiekmdfabDoorZIntsSpec
set_option linter.unusedVariables false
set_option linter.unusedSimpArgs false
namespace Go.Proofs.YtfahogbiekmdfabDoor.Z
open Go.RowKit Ints

theorem cutw_calls {w : Nat} (hw : IsW w) (n : Int) (W : World) :
    Calls Tryd.prog 28 #[.int .i64 (w : Int), .int .u64 (IntKind.u64.wrap n)] W fun e W' => e = .returned (.int .u64 (cutI w n)) ∧ W' = W := by
  rw [← cut_wrap hw n]
  exact cut_calls hw _ (by rw [IntKind.wrap_u64]; omega) (by rw [IntKind.wrap_u64]; omega) W

theorem cut_w64 {w : Nat} (hw : IsW w) (n : Int) : cutI w (wrap64 n) = cutI w n := by
  unfold wrap64
  rcases hw with rfl | rfl | rfl | rfl <;> simp only [cutI] <;> omega

theorem wo_zero {w : Nat} (hw : IsW w) {b : Int} (hb : Of w b) : wo w b = 0 ↔ b = 0 := by
  obtain ⟨h0, h1⟩ := hb
  rcases hw with rfl | rfl | rfl | rfl <;> simp only [wo, Nat.reduceSub, Int.reducePow] at h1 ⊢ <;> omega

theorem wo_range {w : Nat} (hw : IsW w) {a : Int} (ha : Of w a) : lo w ≤ wo w a ∧ wo w a ≤ hi w := by
  obtain ⟨h0, h1⟩ := ha
  rcases hw with rfl | rfl | rfl | rfl <;> simp only [wo, lo, hi, Nat.reduceSub, Int.reducePow] at h1 ⊢ <;> omega

theorem lohi {w : Nat} (hw : IsW w) : -9223372036854775808 ≤ lo w ∧ lo w ≤ -128 ∧ 127 ≤ hi w ∧ hi w ≤ 9223372036854775807 ∧ hi w = -lo w - 1 := by
  rcases hw with rfl | rfl | rfl | rfl <;> decide

/-- What is left of b, divided by w, as the machine reckons it. -/
theorem sh_eq {w : Nat} (hw : IsW w) {b : Int} (h0 : 0 ≤ b) : b.tmod (IntKind.u64.wrap (w : Int)) = (sh w b : Int) := by
  have e : IntKind.u64.wrap (w : Int) = (w : Int) := by
    have := hw.le
    rw [IntKind.wrap_u64]; omega
  obtain ⟨n, rfl⟩ := Int.eq_ofNat_of_zero_le h0
  rw [e, Int.tmod_eq_emod_of_nonneg h0]
  rfl

theorem sh_lt {w : Nat} (hw : IsW w) (b : Int) : sh w b < w := Nat.mod_lt _ hw.pos

/-- A turn by its two parts: moved up by n, and what fell off. -/
theorem turn_bits {w : Nat} (hw : IsW w) (a : Nat) (n : Nat) (hn : n ≤ w) (ha : a < 2 ^ w) :
    ((a * 2 ^ n % 18446744073709551616) ||| (a / 2 ^ (w - n))) % 2 ^ w = rotl w a n := by
  have hl := shr_lt a w n ha hn
  have e : a * 2 ^ n % 18446744073709551616 = 2 ^ n * (a % 2 ^ (64 - n)) := by
    have := shl_mod a 64 n (by have := hw.le; omega)
    rw [show (2 : Nat) ^ 64 = 18446744073709551616 from rfl] at this
    rw [this, Nat.mul_comm]
  rw [e, ← Nat.two_pow_add_eq_or_of_lt hl, ← e]
  have d : (2 : Nat) ^ w ∣ 18446744073709551616 := by
    rw [show (18446744073709551616 : Nat) = 2 ^ 64 from rfl]
    exact Nat.pow_dvd_pow 2 hw.le
  rw [Nat.add_mod, Nat.mod_mod_of_dvd _ d, ← Nat.add_mod, Nat.add_mod, shl_mod _ _ _ hn]
  rw [rotl_eq _ _ _ hn]
  have hj := join_lt _ _ _ _ hl hn (Nat.mod_lt a (Nat.two_pow_pos (w - n)))
  have h1 : a / 2 ^ (w - n) < 2 ^ w := by omega
  rw [Nat.mod_eq_of_lt h1, Nat.add_comm, Nat.mod_eq_of_lt hj]

theorem turn_int {w : Nat} (hw : IsW w) (a : Int) (ha : Of w a) (n m : Nat) (hn : n + m = w) :
    cutI w (bits .or .u64 (IntKind.u64.wrap (a * 2 ^ n)) (a / 2 ^ m)) = (rotl w a.toNat n : Int) ∧ cutI w (bits .or .u64 (a / 2 ^ m) (IntKind.u64.wrap (a * 2 ^ n))) = (rotl w a.toNat n : Int) ∧
    0 ≤ bits .or .u64 (IntKind.u64.wrap (a * 2 ^ n)) (a / 2 ^ m) ∧ bits .or .u64 (IntKind.u64.wrap (a * 2 ^ n)) (a / 2 ^ m) < 18446744073709551616 ∧
    0 ≤ bits .or .u64 (a / 2 ^ m) (IntKind.u64.wrap (a * 2 ^ n)) ∧ bits .or .u64 (a / 2 ^ m) (IntKind.u64.wrap (a * 2 ^ n)) < 18446744073709551616 := by
  have h64 := ha.lt64 hw
  obtain ⟨h0, h1⟩ := ha
  obtain ⟨k, rfl⟩ := Int.eq_ofNat_of_zero_le h0
  have hk : k < 2 ^ w := by exact_mod_cast h1
  have e1 : IntKind.u64.wrap ((k : Int) * 2 ^ n) = ((k * 2 ^ n % 18446744073709551616 : Nat) : Int) := by
    rw [IntKind.wrap_u64]; simp
  have e2 : (k : Int) / 2 ^ m = ((k / 2 ^ m : Nat) : Int) := by simp
  have l1 : k * 2 ^ n % 18446744073709551616 < 18446744073709551616 := Nat.mod_lt _ (by decide)
  have l2 : k / 2 ^ m < 18446744073709551616 := Nat.lt_of_le_of_lt (Nat.div_le_self _ _) (by omega)
  have hm : m = w - n := by omega
  have l3 : (k * 2 ^ n % 18446744073709551616) ||| (k / 2 ^ m) < 2 ^ 64 := Nat.or_lt_two_pow l1 l2
  have t := turn_bits hw k n (by omega) hk
  rw [← hm] at t
  rw [e1, e2, bits_or_u64_nat _ _ l1 l2, bits_or_u64_nat _ _ l2 l1, Nat.or_comm (k / 2 ^ m)]
  unfold cutI
  have e3 : ∀ x : Nat, (x : Int) % 2 ^ w = ((x % 2 ^ w : Nat) : Int) := fun x => by simp
  rw [e3, t]
  refine ⟨rfl, rfl, ?_, ?_, ?_, ?_⟩ <;> omega

end Go.Proofs.YtfahogbiekmdfabDoor.Z
