/-
  The document's Limits.
-/
import Derived.Test.YteacjhmbamcegabTypCells
set_option linter.unusedVariables false
set_option linter.unusedSimpArgs false
namespace Go.Proofs.Yteacjhmbamcegab
open Go.RowKit Typ

theorem SBlk.set3 {w : World} {g : Nat} {t : TypeId} {a b c : Value} (h : SBlk w g t #[a, b, c]) (x y z : Value) : SBlk (((w.setCell ⟨g, 0, none⟩ x).setCell ⟨g, 1, none⟩ y).setCell ⟨g, 2, none⟩ z) g t #[x, y, z] :=
  ((h.set 0 x).set 1 y).set 2 z
def limR (r : (Int × Int × Bool) × Int × Int) : Value := .tuple #[limV r.1.1 r.1.2.1 r.1.2.2, .int .i64 r.2.1, .int .i64 r.2.2]

theorem limAt_bad {l : List Int} {p : Int} (h : p < 0 ∨ (l.length : Int) < p) : limAt l p = ((0, 0, false), 0, 2) := by unfold limAt; rw [if_pos h]
theorem limAt_end (l : List Int) : limAt l (l.length : Int) = ((0, 0, false), 0, 4) := by unfold limAt; rw [if_neg (by omega), if_pos (.inl rfl)]
theorem limAt_big {l : List Int} {q : Nat} (h : q < l.length) (hx : 1 < l[q]?.getD 0) : limAt l (q : Int) = ((0, 0, false), 0, 4) := by
  unfold limAt
  rw [if_neg (by omega)]
  simp only [Int.toNat_natCast]
  rw [if_pos (.inr hx)]
theorem limAt_err {l : List Int} {q : Nat} (h : q < l.length) (hr : Leb.readU l ((q : Int) + 1) 32 = (0, 0, 4)) : limAt l (q : Int) = ((0, 0, false), 0, 4) := by
  unfold limAt
  rw [if_neg (by omega)]
  simp only [Int.toNat_natCast]
  split
  · rfl
  · rw [hr, if_pos (by simp)]
theorem limAt_one {l : List Int} {q : Nat} {n f : Int} (h : q < l.length) (hx : l[q]?.getD 0 = 0) (hr : Leb.readU l ((q : Int) + 1) 32 = (n, f, 0)) : limAt l (q : Int) = ((n, 0, false), f, 0) := by
  unfold limAt
  rw [if_neg (by omega)]
  simp only [Int.toNat_natCast, hx, hr]
  rw [if_neg (by omega), if_neg (by simp), if_pos trivial]
theorem limAt_err2 {l : List Int} {q : Nat} {n f : Int} (h : q < l.length) (hx : l[q]?.getD 0 = 1) (hr : Leb.readU l ((q : Int) + 1) 32 = (n, f, 0)) (hr2 : Leb.readU l f 32 = (0, 0, 4)) : limAt l (q : Int) = ((0, 0, false), 0, 4) := by
  unfold limAt
  rw [if_neg (by omega)]
  simp only [Int.toNat_natCast, hx, hr, hr2]
  rw [if_neg (by omega), if_neg (by simp), if_neg (by decide), if_pos (by simp)]
theorem limAt_two {l : List Int} {q : Nat} {n f m g : Int} (h : q < l.length) (hx : l[q]?.getD 0 = 1) (hr : Leb.readU l ((q : Int) + 1) 32 = (n, f, 0)) (hr2 : Leb.readU l f 32 = (m, g, 0)) : limAt l (q : Int) = ((n, m, true), g, 0) := by
  unfold limAt
  rw [if_neg (by omega)]
  simp only [Int.toNat_natCast, hx, hr, hr2]
  rw [if_neg (by omega), if_neg (by simp), if_neg (by decide), if_neg (by simp)]
theorem wrap_32 {N : Nat} (h : N < 4294967296) : IntKind.u32.wrap (N : Int) = (N : Int) := by
  simp [IntKind.wrap, IntKind.bits, IntKind.signed]
  omega

end Go.Proofs.Yteacjhmbamcegab
