/-
  ZIntsRefs, ZIntsRefs2, ZIntsRTwo.
-/
import Derived.Test.YtoihfmammmkloabDoorPkInts
import Derived.Test.YtoihfmammmkloabDoorZIntsTwoP
/-
  The document's bits, moved, divided, held, oneOf, q15.
-/
set_option linter.unusedVariables false
set_option linter.unusedSimpArgs false
namespace Go.Proofs.YtoihfmammmkloabDoor.Z
open Go.RowKit Ints

theorem nat_of {w : Nat} {a : Int} (ha : Of w a) : ∃ x : Nat, a = x ∧ x < 2 ^ w := by
  obtain ⟨x, rfl⟩ := Int.eq_ofNat_of_zero_le ha.1
  exact ⟨x, rfl, by exact_mod_cast ha.2⟩

theorem pow64 {k : Nat} (h : k < 64) : (2 : Nat) ^ k < 18446744073709551616 := (Nat.pow_lt_pow_right (a := 2) (by decide) h : 2 ^ k < 2 ^ 64)

/-- Bit j of a, as the machine takes it. -/
theorem and_bit (x : Nat) (hx : x < 18446744073709551616) (j : Nat) : bits .and .u64 ((x : Int) / 2 ^ j) 1 = (bit x j : Int) := by
  have e : (x : Int) / 2 ^ j = ((x / 2 ^ j : Nat) : Int) := by simp
  have h := bits_and_u64_nat (x / 2 ^ j) 1 (Nat.lt_of_le_of_lt (Nat.div_le_self _ _) hx) (by decide)
  rw [e]
  refine h.trans ?_
  rw [show (1 : Nat) = 2 ^ 1 - 1 from rfl, Nat.and_two_pow_sub_one_eq_mod]
  rfl

/-- Bit k put to those below it. -/
theorem or_step (S k : Nat) (hk : k < 64) (d : Nat) (hd : bit S k = d) : bits .or .u64 ((S % 2 ^ k : Nat) : Int) (IntKind.u64.wrap ((d : Int) * 2 ^ k)) = ((S % 2 ^ (k + 1) : Nat) : Int) := by
  have hp := pow64 hk
  have hd1 : d ≤ 1 := hd ▸ bit_le S k
  have hlt : S % 2 ^ k < 2 ^ k := Nat.mod_lt _ (Nat.two_pow_pos _)
  have hm : d * 2 ^ k < 18446744073709551616 := by
    have : d * 2 ^ k ≤ 1 * 2 ^ k := Nat.mul_le_mul_right _ hd1
    omega
  have e : IntKind.u64.wrap ((d : Int) * 2 ^ k) = ((2 ^ k * d : Nat) : Int) := by
    have : (d : Int) * 2 ^ k = ((2 ^ k * d : Nat) : Int) := by rw [Nat.mul_comm]; simp
    rw [this, IntKind.wrap_u64]
    rw [Nat.mul_comm] at hm
    omega
  rw [Nat.mul_comm] at hm
  rw [e, bits_or_u64_nat _ _ (by omega) hm, Nat.or_comm, ← Nat.two_pow_add_eq_or_of_lt hlt, mod_succ, hd, Nat.add_comm]

theorem or_step1 (S k : Nat) (hk : k < 64) (hd : bit S k = 1) : bits .or .u64 ((S % 2 ^ k : Nat) : Int) (IntKind.u64.wrap (2 ^ k)) = ((S % 2 ^ (k + 1) : Nat) : Int) := by
  have := or_step S k hk 1 hd
  simpa using this

theorem or_step0 (S k : Nat) (hk : k < 64) (hd : bit S k = 0) : bits .or .u64 ((S % 2 ^ k : Nat) : Int) 0 = ((S % 2 ^ (k + 1) : Nat) : Int) := by
  have := or_step S k hk 0 hd
  simp only [Int.natCast_zero, Int.zero_mul] at this
  rw [IntKind.wrap_u64] at this
  exact this

theorem step0 (S k : Nat) (hd : bit S k = 0) : S % 2 ^ (k + 1) = S % 2 ^ k := by rw [mod_succ, hd]; omega

theorem full {w S : Nat} (h : S < 2 ^ w) : S % 2 ^ w = S := Nat.mod_eq_of_lt h

/-- Where bit k of the answer comes from: 'none', or a bit of a. -/
def src (op w n k : Nat) : Option Nat :=
  match op with
  | 11 => if n ≤ k then some (k - n) else none
  | 12 => if k + n < w then some (k + n) else none
  | 13 => if k + n < w then some (k + n) else some (w - 1)
  | 14 => some ((k + w - n) % w)
  | _ => some ((k + n) % w)

def srcBit (x : Nat) : Option Nat → Nat
  | none => 0
  | some j => bit x j

end Go.Proofs.YtoihfmammmkloabDoor.Z
/-
  The document's divided, held, oneOf, q15.
-/
set_option linter.unusedVariables false
set_option linter.unusedSimpArgs false
namespace Go.Proofs.YtoihfmammmkloabDoor.Z
open Go.RowKit Ints

theorem rem_neg1 {w : Nat} {a b : Int} (h : wo w b = -1) : remS w a b = 0 := by
  unfold remS
  rw [h, Int.tmod_neg, Int.tmod_one]
  unfold cutI
  simp

theorem addH_of (w : Nat) (a b z : Int) (h : z = min (max (wo w a + wo w b) (lo w)) (hi w)) : cutI w z = addH w a b := by rw [h]; rfl
theorem subH_of (w : Nat) (a b z : Int) (h : z = min (max (wo w a - wo w b) (lo w)) (hi w)) : cutI w z = subH w a b := by rw [h]; rfl

theorem cut_wo {w : Nat} (hw : IsW w) {a : Int} (ha : Of w a) : cutI w (wo w a) = a := by
  obtain ⟨h0, h1⟩ := ha
  rcases hw with rfl | rfl | rfl | rfl <;> simp only [wo, cutI, Nat.reduceSub, Int.reducePow] at h1 ⊢ <;> split <;> omega

end Go.Proofs.YtoihfmammmkloabDoor.Z
/-
  The document's Two, operator by operator (genrtwo.py wrote it).
-/
set_option linter.unusedVariables false
set_option linter.unusedSimpArgs false
namespace Go.Proofs.YtoihfmammmkloabDoor.Z
open Go.RowKit Ints

theorem isW_of {w : Nat} (hw : IsW w) : isW (w : Int) = true := (isW_iff w).2 ⟨w, rfl, hw⟩

theorem toNat_lt {w : Nat} {a : Int} (ha : Of w a) : a.toNat < 2 ^ w := by
  obtain ⟨x, rfl, hx⟩ := nat_of ha
  exact hx

theorem shl_bits {w : Nat} (hw : IsW w) {a b : Int} (ha : Of w a) : ∃ S : Nat, shlI w a b = (S : Int) ∧ S < 2 ^ w ∧ ∀ k, k < w → bit S k = srcBit a.toNat (src 11 w (sh w b) k) := by
  obtain ⟨x, rfl, hx⟩ := nat_of ha
  refine ⟨x * 2 ^ sh w b % 2 ^ w, by unfold shlI cutI; simp, Nat.mod_lt _ (Nat.two_pow_pos _), fun k hk => ?_⟩
  rw [bit_mod _ _ _ hk]
  simp only [src, Int.toNat_natCast]
  split
  · next h => rw [bit_shl_hi _ _ _ h]; rfl
  · next h => rw [bit_shl_lo _ _ _ (by omega)]; rfl

theorem shr_bits {w : Nat} (hw : IsW w) {a b : Int} (ha : Of w a) : ∃ S : Nat, shrI w a b = (S : Int) ∧ S < 2 ^ w ∧ ∀ k, k < w → bit S k = srcBit a.toNat (src 12 w (sh w b) k) := by
  obtain ⟨x, rfl, hx⟩ := nat_of ha
  refine ⟨x / 2 ^ sh w b, by unfold shrI; simp, Nat.lt_of_le_of_lt (Nat.div_le_self _ _) hx, fun k hk => ?_⟩
  rw [bit_shr]
  simp only [src, Int.toNat_natCast]
  split
  · rfl
  · next h => rw [bit_high x w _ hx (by omega)]; rfl

theorem sar_bits {w : Nat} (hw : IsW w) {a b : Int} (ha : Of w a) : ∃ S : Nat, sarI w a b = (S : Int) ∧ S < 2 ^ w ∧ ∀ k, k < w → bit S k = srcBit a.toNat (src 13 w (sh w b) k) := by
  obtain ⟨x, rfl, hx⟩ := nat_of ha
  refine ⟨sar w x (sh w b), sar_int w x _ hw.pos hx (sh_lt hw b), sar_lt w x _ hx (sh_lt hw b), fun k hk => ?_⟩
  rw [bit_sar w x _ k hw.pos hx (sh_lt hw b) hk]
  simp only [src, Int.toNat_natCast]
  split <;> rfl

theorem rotl_bits {w : Nat} (hw : IsW w) {a b : Int} (ha : Of w a) : ∃ S : Nat, rotlI w a b = (S : Int) ∧ S < 2 ^ w ∧ ∀ k, k < w → bit S k = srcBit a.toNat (src 14 w (sh w b) k) := by
  obtain ⟨x, rfl, hx⟩ := nat_of ha
  have hl := sh_lt hw b
  refine ⟨rotl w x (sh w b), rfl, rotl_lt w x _ hx (by omega), fun k hk => ?_⟩
  rw [bit_rotl w x _ k hx (by omega) hk]
  simp only [src, Int.toNat_natCast]
  rw [show k + (w - sh w b) = k + w - sh w b by omega]
  rfl

theorem rotr_bits {w : Nat} (hw : IsW w) {a b : Int} (ha : Of w a) : ∃ S : Nat, rotrI w a b = (S : Int) ∧ S < 2 ^ w ∧ ∀ k, k < w → bit S k = srcBit a.toNat (src 15 w (sh w b) k) := by
  obtain ⟨x, rfl, hx⟩ := nat_of ha
  have hl := sh_lt hw b
  refine ⟨rotl w x (w - sh w b), rfl, rotl_lt w x _ hx (by omega), fun k hk => ?_⟩
  rw [bit_rotl w x _ k hx (by omega) hk]
  simp only [src, Int.toNat_natCast]
  rw [show w - (w - sh w b) = sh w b by omega]
  rfl

theorem mean_ref {a b : Int} (h0 : 0 ≤ a) (h1 : 0 ≤ b) (l0 : a < 18446744073709551616) (l1 : b < 18446744073709551616) :
    IntKind.u64.wrap (IntKind.u64.wrap (IntKind.u64.wrap (a / 2) + IntKind.u64.wrap (b / 2)) + (a % 2 + b % 2 + 1) / 2) = (a + b + 1) / 2 := by
  have e : ∀ n : Int, 0 ≤ n → n < 18446744073709551616 → IntKind.u64.wrap n = n := fun n x y => by rw [IntKind.wrap_u64]; omega
  rw [e (a / 2) (by omega) (by omega), e (b / 2) (by omega) (by omega), e (a / 2 + b / 2) (by omega) (by omega), e _ (by omega) (by omega)]
  omega

end Go.Proofs.YtoihfmammmkloabDoor.Z
