/-
  The document's bits, moved, divided, held, oneOf, q15.
-/
import Derived.Test.YtfahogbiekmdfabDoorZIntsMoves
set_option linter.unusedVariables false
set_option linter.unusedSimpArgs false
namespace Go.Proofs.YtfahogbiekmdfabDoor.Z
open Go.RowKit Ints

theorem nat_of {w : Nat} {a : Int} (ha : Of w a) : ∃ x : Nat, a = x ∧ x < 2 ^ w := by
  obtain ⟨x, rfl⟩ := Int.eq_ofNat_of_zero_le ha.1
  exact ⟨x, rfl, by exact_mod_cast ha.2⟩

theorem pow64 {k : Nat} (h : k < 64) : (2 : Nat) ^ k < 18446744073709551616 := (Nat.pow_lt_pow_right (a := 2) (by decide) h : 2 ^ k < 2 ^ 64)

/-- Bit j of a, as the machine takes it. -/
theorem and_bit (x : Nat) (hx : x < 18446744073709551616) (j : Nat) : bits .and .u64 ((x : Int) / 2 ^ j) 1 = (bit x j : Int) := by
  have e : (x : Int) / 2 ^ j = ((x / 2 ^ j : Nat) : Int) := by simp
  have h := bits_and_u64_nat (x / 2 ^ j) 1 (Nat.lt_of_le_of_lt (Nat.div_le_self _ _) hx) (by decide)
  rw [e]
  refine h.trans ?_
  rw [show (1 : Nat) = 2 ^ 1 - 1 from rfl, Nat.and_two_pow_sub_one_eq_mod]
  rfl

/-- Bit k put to those below it. -/
theorem or_step (S k : Nat) (hk : k < 64) (d : Nat) (hd : bit S k = d) : bits .or .u64 ((S % 2 ^ k : Nat) : Int) (IntKind.u64.wrap ((d : Int) * 2 ^ k)) = ((S % 2 ^ (k + 1) : Nat) : Int) := by
  have hp := pow64 hk
  have hd1 : d ≤ 1 := hd ▸ bit_le S k
  have hlt : S % 2 ^ k < 2 ^ k := Nat.mod_lt _ (Nat.two_pow_pos _)
  have hm : d * 2 ^ k < 18446744073709551616 := by
    have : d * 2 ^ k ≤ 1 * 2 ^ k := Nat.mul_le_mul_right _ hd1
    omega
  have e : IntKind.u64.wrap ((d : Int) * 2 ^ k) = ((2 ^ k * d : Nat) : Int) := by
    have : (d : Int) * 2 ^ k = ((2 ^ k * d : Nat) : Int) := by rw [Nat.mul_comm]; simp
    rw [this, IntKind.wrap_u64]
    rw [Nat.mul_comm] at hm
    omega
  rw [Nat.mul_comm] at hm
  rw [e, bits_or_u64_nat _ _ (by omega) hm, Nat.or_comm, ← Nat.two_pow_add_eq_or_of_lt hlt, mod_succ, hd, Nat.add_comm]

theorem or_step1 (S k : Nat) (hk : k < 64) (hd : bit S k = 1) : bits .or .u64 ((S % 2 ^ k : Nat) : Int) (IntKind.u64.wrap (2 ^ k)) = ((S % 2 ^ (k + 1) : Nat) : Int) := by
  have := or_step S k hk 1 hd
  simpa using this

theorem or_step0 (S k : Nat) (hk : k < 64) (hd : bit S k = 0) : bits .or .u64 ((S % 2 ^ k : Nat) : Int) 0 = ((S % 2 ^ (k + 1) : Nat) : Int) := by
  have := or_step S k hk 0 hd
  simp only [Int.natCast_zero, Int.zero_mul] at this
  rw [IntKind.wrap_u64] at this
  exact this

theorem step0 (S k : Nat) (hd : bit S k = 0) : S % 2 ^ (k + 1) = S % 2 ^ k := by rw [mod_succ, hd]; omega

theorem full {w S : Nat} (h : S < 2 ^ w) : S % 2 ^ w = S := Nat.mod_eq_of_lt h

/-- Where bit k of the answer comes from: 'none', or a bit of a. -/
def src (op w n k : Nat) : Option Nat :=
  match op with
  | 11 => if n ≤ k then some (k - n) else none
  | 12 => if k + n < w then some (k + n) else none
  | 13 => if k + n < w then some (k + n) else some (w - 1)
  | 14 => some ((k + w - n) % w)
  | _ => some ((k + n) % w)

def srcBit (x : Nat) : Option Nat → Nat
  | none => 0
  | some j => bit x j

end Go.Proofs.YtfahogbiekmdfabDoor.Z
