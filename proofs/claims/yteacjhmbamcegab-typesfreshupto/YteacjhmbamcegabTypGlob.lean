/-
  The document's Global, Table.
-/
import Derived.Test.YteacjhmbamcegabTypLims
set_option linter.unusedVariables false
set_option linter.unusedSimpArgs false
namespace Go.Proofs.Yteacjhmbamcegab
open Go.RowKit Typ

theorem SBlk.set2 {w : World} {g : Nat} {t : TypeId} {a b : Value} (h : SBlk w g t #[a, b]) (x y : Value) : SBlk ((w.setCell ⟨g, 0, none⟩ x).setCell ⟨g, 1, none⟩ y) g t #[x, y] := (h.set 0 x).set 1 y
theorem SBlk.set4 {w : World} {g : Nat} {t : TypeId} {a b c d : Value} (h : SBlk w g t #[a, b, c, d]) (x y z u : Value) : SBlk ((((w.setCell ⟨g, 0, none⟩ x).setCell ⟨g, 1, none⟩ y).setCell ⟨g, 2, none⟩ z).setCell ⟨g, 3, none⟩ u) g t #[x, y, z, u] :=
  (((h.set 0 x).set 1 y).set 2 z).set 3 u
def globR (r : (Int × Bool) × Int × Int) : Value := .tuple #[.agg #[.int .u8 r.1.1, .bool r.1.2], .int .i64 r.2.1, .int .i64 r.2.2]
def tabR (r : (Int × Int × Int × Bool) × Int × Int) : Value := .tuple #[tabV r.1.1 r.1.2.1 r.1.2.2.1 r.1.2.2.2, .int .i64 r.2.1, .int .i64 r.2.2]

theorem valAt_cases (l : List Int) (p : Int) : (∃ x, (x = 2 ∨ x = 4) ∧ valAt l p = (0, 0, x)) ∨ ∃ q : Nat, p = (q : Int) ∧ q < l.length ∧ isT (l[q]?.getD 0) = true ∧ valAt l p = (l[q]?.getD 0, ((q + 1 : Nat) : Int), 0) := by
  by_cases c1 : p < 0 ∨ (l.length : Int) < p
  · exact .inl ⟨2, .inl rfl, valAt_bad c1⟩
  · obtain ⟨q, rfl⟩ : ∃ q : Nat, p = (q : Int) := ⟨p.toNat, by omega⟩
    by_cases c2 : q < l.length
    · rw [valAt_in c2]
      cases h : isT (l[q]?.getD 0) with
      | true => exact .inr ⟨q, rfl, c2, h, by simp⟩
      | false => exact .inl ⟨4, .inr rfl, by simp⟩
    · obtain rfl : q = l.length := by omega
      exact .inl ⟨4, .inr rfl, valAt_end l⟩

end Go.Proofs.Yteacjhmbamcegab
