/-
  The document's Func.
-/
import Derived.Test.YteacjhmbamcegabTypGlob
import Derived.OneCell
set_option linter.unusedVariables false
set_option linter.unusedSimpArgs false
namespace Go.Proofs.Yteacjhmbamcegab
open Go.RowKit Typ

/-- A row of values' types of the call's own. -/
def OwnT (w : World) (b : Nat) (v : Value) (l : List Int) : Prop := w.ownsRow b 22 1 v l.length (l.map (Value.int .u8))
theorem OwnT.nil (w : World) (b : Nat) : OwnT w b (.slice none 0 0) [] := World.ownsRow_nil _ _ _ _
theorem OwnT.later {w w' : World} {b : Nat} {v : Value} {l : List Int} (h : OwnT w b v l) (hb : Below w.heap.size w w') : OwnT w' b v l := by
  unfold OwnT at *
  obtain ⟨h1, h2 | ⟨g, cap, cur, e, hg, hblk, h3⟩⟩ := h
  · exact ⟨h1, .inl h2⟩
  · exact ⟨h1, .inr ⟨g, cap, cur, e, hg, (hb.block g (Array.getElem?_eq_some_iff.1 hblk).1).trans hblk, h3⟩⟩
theorem OwnT.mono {w : World} {b b' : Nat} {v : Value} {l : List Int} (h : OwnT w b v l) (hb : b' ≤ b) : OwnT w b' v l := ownsRow_mono h hb
theorem OwnT.set {w : World} {b : Nat} {v : Value} {l : List Int} (h : OwnT w b v l) {g : Nat} (hg : g < b) (k : Nat) (u : Value) : OwnT (w.setCell ⟨g, k, none⟩ u) b v l := ownsRow_setCell_below h hg u
theorem OwnT.shape {w : World} {b : Nat} {v : Value} {l : List Int} (h : OwnT w b v l) : ∃ a c, v = .slice a l.length c := shape_own h

def FuncPost (R : (List Int × List Int) × Int × Int) (w : World) (e : Ending) (w' : World) : Prop :=
  ∃ v1 v2, e = .returned (.tuple #[.agg #[v1, v2], .int .i64 R.2.1, .int .i64 R.2.2]) ∧ OwnT w' w.heap.size v1 R.1.1 ∧ OwnT w' w.heap.size v2 R.1.2 ∧ Below w.heap.size w w'

theorem funcAt_bad {l : List Int} {p : Int} (h : p < 0 ∨ (l.length : Int) < p) : funcAt l p = (([], []), 0, 2) := by unfold funcAt; rw [if_pos h]
theorem funcAt_end (l : List Int) : funcAt l (l.length : Int) = (([], []), 0, 4) := by unfold funcAt; rw [if_neg (by omega), if_pos (.inl rfl)]
theorem funcAt_not {l : List Int} {q : Nat} (h : q < l.length) (hx : l[q]?.getD 0 ≠ 96) : funcAt l (q : Int) = (([], []), 0, 4) := by
  unfold funcAt
  rw [if_neg (by omega)]
  simp only [Int.toNat_natCast]
  rw [if_pos (.inr hx)]
theorem funcAt_in {l : List Int} {q : Nat} (h : q < l.length) (hx : l[q]?.getD 0 = 96) : funcAt l (q : Int) =
    if (listAt l ((q : Int) + 1)).2.2 ≠ 0 then (([], []), 0, 4) else if (listAt l (listAt l ((q : Int) + 1)).2.1).2.2 ≠ 0 then (([], []), 0, 4)
    else (((listAt l ((q : Int) + 1)).1, (listAt l (listAt l ((q : Int) + 1)).2.1).1), (listAt l (listAt l ((q : Int) + 1)).2.1).2.1, 0) := by
  unfold funcAt
  rw [if_neg (by omega)]
  simp only [Int.toNat_natCast]
  rw [if_neg (by rw [hx]; simp; omega)]

end Go.Proofs.Yteacjhmbamcegab
