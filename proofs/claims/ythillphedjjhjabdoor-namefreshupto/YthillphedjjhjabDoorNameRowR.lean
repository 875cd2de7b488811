/-
  A slice of runes that came in, as the walks are told of it.
-/
import Derived.Test.YthillphedjjhjabDoorNamePutWalk
namespace Go.Proofs.YthillphedjjhjabDoor
open Go.RowKit

theorem rowR_of {w : World} {a : Option Addr} {len cap : Nat} {zs : List Int}
    (h : (a = none ∧ len = 0 ∧ cap = 0 ∧ zs = []) ∨ ∃ x, a = some x ∧ len ≤ cap ∧ cap ≤ maxLen ∧ zs.length = cap ∧ (∀ i, i < zs.length → w.cell? (x.add i) = some (.int .i32 (zs.getD i 0))) ∧ ∀ n ∈ zs, (Lit.int .i32 n).wf = true) :
    RowR w a len cap (zs.take len) := by
  rcases h with ⟨rfl, rfl, rfl, rfl⟩ | ⟨x, rfl, hl, hm, hz, hcell, hwf⟩
  · exact ⟨rfl, Nat.le_refl _, Nat.zero_le _, fun i => by simp, fun _ => rfl, fun h => absurd h (by decide)⟩
  · refine ⟨by simp; omega, hl, hm, ?_, (fun h => by cases h), fun h0 => ?_⟩
    · intro i
      by_cases hi : i < len
      · have hiz : i < zs.length := by omega
        have hw := hwf zs[i] (List.getElem_mem hiz)
        rw [List.getElem?_take_of_lt hi, List.getElem?_eq_getElem hiz]
        simp [Lit.wf, IntKind.min, IntKind.max, IntKind.bits, IntKind.signed] at hw
        simp
        omega
      · rw [List.getElem?_eq_none (by simp; omega)]; simp
    · obtain ⟨b, off, spot⟩ := x
      have hc0 := hcell 0 (by omega)
      have hspot : spot = none := by simpa [Addr.add] using World.cell?_spot hc0
      subst hspot
      refine ⟨b, off, rfl, fun i hi => ?_⟩
      have hc := hcell i (by omega)
      rw [List.getElem?_take_of_lt hi]
      by_cases h0 : i = 0
      · subst h0; simpa [Addr.add] using hc
      · simpa [Addr.add, h0] using hc

end Go.Proofs.YthillphedjjhjabDoor
