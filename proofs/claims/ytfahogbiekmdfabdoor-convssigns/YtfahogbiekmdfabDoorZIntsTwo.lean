/-
  ints.Two, operator by operator (gentwo.py wrote it).
-/
import Derived.Test.YtfahogbiekmdfabDoorZIntsMoves
set_option linter.unusedVariables false
set_option linter.unusedSimpArgs false
namespace Go.Proofs.YtfahogbiekmdfabDoor.Z
open Go.RowKit Ints

theorem bits_and_int {a b : Int} (h0 : 0 ≤ a) (h1 : 0 ≤ b) (l0 : a < 18446744073709551616) (l1 : b < 18446744073709551616) : bits .and .u64 a b = andI a b := by
  obtain ⟨x, rfl⟩ := Int.eq_ofNat_of_zero_le h0
  obtain ⟨y, rfl⟩ := Int.eq_ofNat_of_zero_le h1
  rw [bits_and_u64_nat x y (by omega) (by omega)]; rfl
theorem bits_or_int {a b : Int} (h0 : 0 ≤ a) (h1 : 0 ≤ b) (l0 : a < 18446744073709551616) (l1 : b < 18446744073709551616) : bits .or .u64 a b = orI a b := by
  obtain ⟨x, rfl⟩ := Int.eq_ofNat_of_zero_le h0
  obtain ⟨y, rfl⟩ := Int.eq_ofNat_of_zero_le h1
  rw [bits_or_u64_nat x y (by omega) (by omega)]; rfl
theorem bits_xor_int {a b : Int} (h0 : 0 ≤ a) (h1 : 0 ≤ b) (l0 : a < 18446744073709551616) (l1 : b < 18446744073709551616) : bits .xor .u64 a b = xorI a b := by
  obtain ⟨x, rfl⟩ := Int.eq_ofNat_of_zero_le h0
  obtain ⟨y, rfl⟩ := Int.eq_ofNat_of_zero_le h1
  rw [bits_xor_u64_nat x y (by omega) (by omega)]; rfl

theorem mean_int {a b : Int} (h0 : 0 ≤ a) (h1 : 0 ≤ b) (l0 : a < 18446744073709551616) (l1 : b < 18446744073709551616) : IntKind.u64.wrap (orI a b - xorI a b / 2) = (a + b + 1) / 2 := by
  obtain ⟨x, rfl⟩ := Int.eq_ofNat_of_zero_le h0
  obtain ⟨y, rfl⟩ := Int.eq_ofNat_of_zero_le h1
  have h := mean_bits x y
  have h2 := or_eq_bits x y
  unfold orI xorI
  simp only [Int.toNat_natCast]
  rw [IntKind.wrap_u64]
  omega

theorem sumU_int {w : Nat} (hw : IsW w) {a b : Int} (ha : Of w a) (hb : Of w b) : IntKind.u64.wrap (a + min b (IntKind.u64.wrap (mo w - a))) = min (a + b) (mo w) := by
  have l0 := ha.lt64 hw
  have h1 := mo_ge ha
  have h2 := mo_ge hb
  have h3 : mo w < 18446744073709551616 := by rcases hw with rfl | rfl | rfl | rfl <;> decide
  have h4 := ha.1; have h5 := hb.1
  rw [IntKind.wrap_u64, IntKind.wrap_u64]
  omega

theorem difU_int {w : Nat} (hw : IsW w) {a b : Int} (ha : Of w a) (hb : Of w b) : IntKind.u64.wrap (a - min b a) = max (a - b) 0 := by
  have l0 := ha.lt64 hw
  have h4 := ha.1; have h5 := hb.1
  rw [IntKind.wrap_u64]
  omega

theorem prod_16 {x y : Int} (hx : -32768 ≤ x ∧ x ≤ 32767) (hy : -32768 ≤ y ∧ y ≤ 32767) : -1073709056 ≤ x * y ∧ x * y ≤ 1073741824 := by
  obtain ⟨a, b⟩ := hx
  obtain ⟨c, d⟩ := hy
  have key : ∀ u v : Int, 0 ≤ u → u ≤ 32768 → 0 ≤ v → v ≤ 32768 → 0 ≤ u * v ∧ u * v ≤ 1073741824 := fun u v h1 h2 h3 h4 =>
    ⟨Int.mul_nonneg h1 h3, by have := Int.mul_le_mul h2 h4 h3 (by decide); omega⟩
  have key2 : ∀ u v : Int, 0 ≤ u → u ≤ 32768 → 0 ≤ v → v ≤ 32767 → 0 ≤ u * v ∧ u * v ≤ 1073709056 := fun u v h1 h2 h3 h4 =>
    ⟨Int.mul_nonneg h1 h3, by have := Int.mul_le_mul h2 h4 h3 (by decide); omega⟩
  by_cases cx : 0 ≤ x <;> by_cases cy : 0 ≤ y
  · have := key x y cx (by omega) cy (by omega); omega
  · have := key2 (-y) x (by omega) (by omega) cx (by omega)
    have e : -y * x = -(x * y) := by rw [Int.neg_mul, Int.mul_comm]
    omega
  · have := key2 (-x) y (by omega) (by omega) cy (by omega)
    have e : -x * y = -(x * y) := by rw [Int.neg_mul]
    omega
  · have := key (-x) (-y) (by omega) (by omega) (by omega) (by omega)
    have e : -x * -y = x * y := by rw [Int.neg_mul_neg]
    omega

theorem two_none {op : Nat} (h : op = 0 ∨ 25 < op) (w : Nat) (a b : Int) : two op w a b = (0, 2) := by
  unfold two
  split <;> first | omega | rfl

end Go.Proofs.YtfahogbiekmdfabDoor.Z
