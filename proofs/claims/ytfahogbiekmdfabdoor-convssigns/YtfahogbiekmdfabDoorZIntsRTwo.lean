/-
  The document's Two, operator by operator (genrtwo.py wrote it).
-/
import Derived.Test.YtfahogbiekmdfabDoorZIntsRefs2
set_option linter.unusedVariables false
set_option linter.unusedSimpArgs false
namespace Go.Proofs.YtfahogbiekmdfabDoor.Z
open Go.RowKit Ints

theorem isW_of {w : Nat} (hw : IsW w) : isW (w : Int) = true := (isW_iff w).2 ⟨w, rfl, hw⟩

theorem toNat_lt {w : Nat} {a : Int} (ha : Of w a) : a.toNat < 2 ^ w := by
  obtain ⟨x, rfl, hx⟩ := nat_of ha
  exact hx

theorem shl_bits {w : Nat} (hw : IsW w) {a b : Int} (ha : Of w a) : ∃ S : Nat, shlI w a b = (S : Int) ∧ S < 2 ^ w ∧ ∀ k, k < w → bit S k = srcBit a.toNat (src 11 w (sh w b) k) := by
  obtain ⟨x, rfl, hx⟩ := nat_of ha
  refine ⟨x * 2 ^ sh w b % 2 ^ w, by unfold shlI cutI; simp, Nat.mod_lt _ (Nat.two_pow_pos _), fun k hk => ?_⟩
  rw [bit_mod _ _ _ hk]
  simp only [src, Int.toNat_natCast]
  split
  · next h => rw [bit_shl_hi _ _ _ h]; rfl
  · next h => rw [bit_shl_lo _ _ _ (by omega)]; rfl

theorem shr_bits {w : Nat} (hw : IsW w) {a b : Int} (ha : Of w a) : ∃ S : Nat, shrI w a b = (S : Int) ∧ S < 2 ^ w ∧ ∀ k, k < w → bit S k = srcBit a.toNat (src 12 w (sh w b) k) := by
  obtain ⟨x, rfl, hx⟩ := nat_of ha
  refine ⟨x / 2 ^ sh w b, by unfold shrI; simp, Nat.lt_of_le_of_lt (Nat.div_le_self _ _) hx, fun k hk => ?_⟩
  rw [bit_shr]
  simp only [src, Int.toNat_natCast]
  split
  · rfl
  · next h => rw [bit_high x w _ hx (by omega)]; rfl

theorem sar_bits {w : Nat} (hw : IsW w) {a b : Int} (ha : Of w a) : ∃ S : Nat, sarI w a b = (S : Int) ∧ S < 2 ^ w ∧ ∀ k, k < w → bit S k = srcBit a.toNat (src 13 w (sh w b) k) := by
  obtain ⟨x, rfl, hx⟩ := nat_of ha
  refine ⟨sar w x (sh w b), sar_int w x _ hw.pos hx (sh_lt hw b), sar_lt w x _ hx (sh_lt hw b), fun k hk => ?_⟩
  rw [bit_sar w x _ k hw.pos hx (sh_lt hw b) hk]
  simp only [src, Int.toNat_natCast]
  split <;> rfl

theorem rotl_bits {w : Nat} (hw : IsW w) {a b : Int} (ha : Of w a) : ∃ S : Nat, rotlI w a b = (S : Int) ∧ S < 2 ^ w ∧ ∀ k, k < w → bit S k = srcBit a.toNat (src 14 w (sh w b) k) := by
  obtain ⟨x, rfl, hx⟩ := nat_of ha
  have hl := sh_lt hw b
  refine ⟨rotl w x (sh w b), rfl, rotl_lt w x _ hx (by omega), fun k hk => ?_⟩
  rw [bit_rotl w x _ k hx (by omega) hk]
  simp only [src, Int.toNat_natCast]
  rw [show k + (w - sh w b) = k + w - sh w b by omega]
  rfl

theorem rotr_bits {w : Nat} (hw : IsW w) {a b : Int} (ha : Of w a) : ∃ S : Nat, rotrI w a b = (S : Int) ∧ S < 2 ^ w ∧ ∀ k, k < w → bit S k = srcBit a.toNat (src 15 w (sh w b) k) := by
  obtain ⟨x, rfl, hx⟩ := nat_of ha
  have hl := sh_lt hw b
  refine ⟨rotl w x (w - sh w b), rfl, rotl_lt w x _ hx (by omega), fun k hk => ?_⟩
  rw [bit_rotl w x _ k hx (by omega) hk]
  simp only [src, Int.toNat_natCast]
  rw [show w - (w - sh w b) = sh w b by omega]
  rfl

theorem mean_ref {a b : Int} (h0 : 0 ≤ a) (h1 : 0 ≤ b) (l0 : a < 18446744073709551616) (l1 : b < 18446744073709551616) :
    IntKind.u64.wrap (IntKind.u64.wrap (IntKind.u64.wrap (a / 2) + IntKind.u64.wrap (b / 2)) + (a % 2 + b % 2 + 1) / 2) = (a + b + 1) / 2 := by
  have e : ∀ n : Int, 0 ≤ n → n < 18446744073709551616 → IntKind.u64.wrap n = n := fun n x y => by rw [IntKind.wrap_u64]; omega
  rw [e (a / 2) (by omega) (by omega), e (b / 2) (by omega) (by omega), e (a / 2 + b / 2) (by omega) (by omega), e _ (by omega) (by omega)]
  omega

end Go.Proofs.YtfahogbiekmdfabDoor.Z
