/-
  A slice of words that came in, as the walks are told of it.
-/
import Derived.Test.YtdhanapmknlobabDoorLanLists
set_option linter.unusedVariables false
namespace Go.Proofs.YtdhanapmknlobabDoor
open Go.RowKit Lan

theorem roww_of {w : World} {a : Option Addr} {len cap : Nat} {zs : List Int}
    (h : (a = none ∧ len = 0 ∧ cap = 0 ∧ zs = []) ∨ ∃ x, a = some x ∧ len ≤ cap ∧ cap ≤ maxLen ∧ zs.length = cap ∧ (∀ i, i < zs.length → w.cell? (x.add i) = some (.int .u64 (zs.getD i 0))) ∧ ∀ n ∈ zs, (Lit.int .u64 n).wf = true) :
    RowW w a len ((zs.take len).map Int.toNat) := by
  rcases h with ⟨rfl, rfl, rfl, rfl⟩ | ⟨x, rfl, hl, hm, hz, hcell, hwf⟩
  · exact ⟨rfl, Nat.zero_le _, fun i => by simp [at0], fun h => absurd h (by decide)⟩
  · have one : ∀ i, i < len → ∃ n : Nat, at0 ((zs.take len).map Int.toNat) i = n ∧ zs.getD i 0 = (n : Int) ∧ n < 2 ^ 64 := by
      intro i hi
      have hiz : i < zs.length := by omega
      have hw := hwf zs[i] (List.getElem_mem hiz)
      simp [Lit.wf, IntKind.min, IntKind.max, IntKind.bits, IntKind.signed] at hw
      refine ⟨zs[i].toNat, ?_, ?_, by omega⟩
      · simp [at0, List.getElem?_take_of_lt hi, List.getElem?_eq_getElem hiz]
      · simp [List.getElem?_eq_getElem hiz]; omega
    refine ⟨by simp; omega, by unfold maxLen at hm; omega, ?_, fun h0 => ?_⟩
    · intro i
      by_cases hi : i < len
      · obtain ⟨n, e, _, hn⟩ := one i hi
        rw [e]; exact hn
      · have e : ((zs.take len).map Int.toNat)[i]? = none := List.getElem?_eq_none (by simp; omega)
        unfold at0; rw [e]; exact Nat.two_pow_pos 64
    · obtain ⟨b, off, spot⟩ := x
      have hc0 := hcell 0 (by omega)
      have hspot : spot = none := by simpa [Addr.add] using World.cell?_spot hc0
      subst hspot
      refine ⟨b, off, rfl, fun i hi => ?_⟩
      have hc := hcell i (by omega)
      obtain ⟨n, e, e2, _⟩ := one i hi
      rw [e]
      rw [e2] at hc
      by_cases h0 : i = 0
      · subst h0; simpa [Addr.add] using hc
      · simpa [Addr.add, h0] using hc
end Go.Proofs.YtdhanapmknlobabDoor
