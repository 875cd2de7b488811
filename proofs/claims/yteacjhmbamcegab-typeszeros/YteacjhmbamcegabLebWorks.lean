/-
  The walk of 'works': two numbers that the document tells are read so.
-/
import Derived.Test.YteacjhmbamcegabLebReads
import Derived.Test.YteacjhmbamcegabLebFacts
import Derived.WalkSpells
import Derived.WalkSmall
namespace Go.Proofs.Yteacjhmbamcegab
open Go.RowKit
set_option linter.unusedVariables false

theorem readU_doc : Leb.readU [229, 142, 38] 0 32 = (624485, 3, 0) := by decide
theorem readS_doc : Leb.readS [192, 187, 120] 0 33 = (-123456, 3, 0) := by decide

theorem row_three (w : World) (b : Nat) (hb : b = w.heap.size) (x y z : Int) (hx : 0 ≤ x ∧ x ≤ 255) (hy : 0 ≤ y ∧ y ≤ 255) (hz : 0 ≤ z ∧ z ≤ 255) :
    Row (w.alloc (.cells #[.int .u8 x, .int .u8 y, .int .u8 z] 5)) (some ⟨b, 0, none⟩) 3 3 [x, y, z] := by
  subst hb
  refine ⟨rfl, Nat.le_refl _, (by decide), ?_, (fun h => by cases h), fun _ => ⟨w.heap.size, 0, rfl, ?_⟩⟩
  · intro i
    match i with
    | 0 => exact hx
    | 1 => exact hy
    | 2 => exact hz
    | i + 3 => simp
  · intro i hi
    match i, hi with
    | 0, _ => simp [go_sem]
    | 1, _ => simp [go_sem]
    | 2, _ => simp [go_sem]

theorem hide {p : Prop} (h : p) : Hid p := h

theorem Row.drewN {w : World} {a : Option Addr} {len cap : Nat} {l : List Int} (H : Row w a len cap l) (n : Nat) : Row (w.drewN n) a len cap l := H

theorem Row.later {w w' : World} {a : Option Addr} {len cap : Nat} {l : List Int} (H : Row w a len cap l) (hb : Below w.heap.size w w') : Row w' a len cap l := by
  obtain ⟨h1, h2, h3, h4, h5, h6⟩ := H
  refine ⟨h1, h2, h3, h4, h5, fun h => ?_⟩
  obtain ⟨b, off, rfl, hc⟩ := h6 h
  exact ⟨b, off, rfl, fun i hi => cell_later hb (hc i hi)⟩

/-- A slice of bytes that came in, as the walks want it. -/
theorem row_of {w : World} {a : Option Addr} {len cap : Nat} {zs : List Int}
    (h : (a = none ∧ len = 0 ∧ cap = 0 ∧ zs = []) ∨ ∃ x, a = some x ∧ len ≤ cap ∧ cap ≤ maxLen ∧ zs.length = cap ∧ (∀ i, i < zs.length → w.cell? (x.add i) = some (.int .u8 (zs.getD i 0))) ∧ ∀ n ∈ zs, (Lit.int .u8 n).wf = true) :
    Row w a len cap (zs.take len) := by
  rcases h with ⟨rfl, rfl, rfl, rfl⟩ | ⟨x, rfl, hl, hm, hz, hcell, hwf⟩
  · exact ⟨rfl, Nat.le_refl _, Nat.zero_le _, fun i => by simp, fun _ => rfl, fun h => absurd h (by decide)⟩
  · refine ⟨by simp; omega, hl, hm, ?_, (fun h => by cases h), fun h0 => ?_⟩
    · intro i
      by_cases hi : i < len
      · have hiz : i < zs.length := by omega
        have hw := hwf zs[i] (List.getElem_mem hiz)
        rw [List.getElem?_take_of_lt hi, List.getElem?_eq_getElem hiz]
        simp [Lit.wf, IntKind.min, IntKind.max, IntKind.bits, IntKind.signed] at hw
        simp
        omega
      · rw [List.getElem?_eq_none (by simp; omega)]; simp
    · obtain ⟨b, off, spot⟩ := x
      have hc0 := hcell 0 (by omega)
      have hspot : spot = none := by simpa [Addr.add] using World.cell?_spot hc0
      subst hspot
      refine ⟨b, off, rfl, fun i hi => ?_⟩
      have hc := hcell i (by omega)
      rw [List.getElem?_take_of_lt hi]
      by_cases h0 : i = 0
      · subst h0; simpa [Addr.add] using hc
      · simpa [Addr.add, h0] using hc
end Go.Proofs.Yteacjhmbamcegab
