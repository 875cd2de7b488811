/-
  VinRNar, VinRWide, VinRTimes, VinRPairs, VinRDot, VinRefs2.
-/
import Derived.Test.YtoihfmammmkloabDoorPkRef
import Derived.StillTailTactics
import Derived.Test.YtoihfmammmkloabDoorPkInts
import Derived.Test.YtoihfmammmkloabDoorPkVinA
import Derived.Test.YtoihfmammmkloabDoorPkThan
/-
  The document's Narrow of lanes.
-/
set_option linter.unusedVariables false
set_option linter.unusedSimpArgs false
namespace Go.Proofs.YtoihfmammmkloabDoor
open Go.RowKit Lan

/-- Two rows of c, one behind the other. -/
def joinF (c : Nat) (f g : Nat → Nat) (i : Nat) : Nat := if i < c then f i else g (i - c)
theorem join_append (c : Nat) (f g : Nat → Nat) : (List.range c).map f ++ (List.range c).map g = (List.range (c + c)).map (joinF c f g) := by
  apply List.ext_getElem
  · simp
  · intro j h1 h2
    simp only [List.getElem_append, List.getElem_map, List.getElem_range, List.length_map, List.length_range, joinF]
    split <;> rfl
theorem OwnW.later {w w' : World} {b : Nat} {v : Value} {l : List Nat} (h : OwnW w b v l) (hb : Below w.heap.size w w') : OwnW w' b v l := by
  unfold OwnW at *
  obtain ⟨h1, h2 | ⟨g, cap, cur, e, hg, hblk, h3⟩⟩ := h
  · exact ⟨h1, .inl h2⟩
  · exact ⟨h1, .inr ⟨g, cap, cur, e, hg, (hb.block g (Array.getElem?_eq_some_iff.1 hblk).1).trans hblk, h3⟩⟩

end Go.Proofs.YtoihfmammmkloabDoor
/-
  The document's wide.
-/
set_option linter.unusedVariables false
set_option linter.unusedSimpArgs false
namespace Go.Proofs.YtoihfmammmkloabDoor
open Go.RowKit Lan

end Go.Proofs.YtoihfmammmkloabDoor
/-
  The document's Wide and Times of lanes.
-/
set_option linter.unusedVariables false
set_option linter.unusedSimpArgs false
namespace Go.Proofs.YtoihfmammmkloabDoor
open Go.RowKit Lan

def TimesJ (V1 V2 m0 m1 m2 : Value) (c : Nat) (A B : List Nat) (wa : World) (d : Nat → Bool) (vs : List Value) (wz : World) : Prop :=
  (d 0 = true → vs[0]?.getD undef = m0) ∧ (d 1 = true → vs[1]?.getD undef = m1) ∧ (d 2 = true → vs[2]?.getD undef = m2) ∧ (d 3 = true → vs[3]?.getD undef = V1) ∧ OwnX (d 4) (vs[4]?.getD undef) wa.heap.size c A wz ∧ (d 5 = true → vs[5]?.getD undef = m0) ∧ (d 6 = true → vs[6]?.getD undef = m1) ∧ (d 7 = true → vs[7]?.getD undef = m2) ∧ (d 8 = true → vs[8]?.getD undef = V2) ∧ OwnX (d 9) (vs[9]?.getD undef) wa.heap.size c B wz ∧ (d 10 = true → d 4 = true ∧ vs[10]?.getD undef = vs[4]?.getD undef) ∧ (d 11 = true → d 9 = true ∧ vs[11]?.getD undef = vs[9]?.getD undef) ∧ (d 4 = true → d 9 = true → blkOf (vs[4]?.getD undef) ≠ blkOf (vs[9]?.getD undef)) ∧ Below wa.heap.size wa wz

end Go.Proofs.YtoihfmammmkloabDoor
/-
  The document's Pairs of lanes.
-/
set_option linter.unusedVariables false
set_option linter.unusedSimpArgs false
namespace Go.Proofs.YtoihfmammmkloabDoor
open Go.RowKit Lan

end Go.Proofs.YtoihfmammmkloabDoor
/-
  The document's Dot of lanes.
-/
set_option linter.unusedVariables false
set_option linter.unusedSimpArgs false
namespace Go.Proofs.YtoihfmammmkloabDoor
open Go.RowKit Lan

def DotJ (V1 V2 : Value) (c : Nat) (A B : List Nat) (wa : World) (d : Nat → Bool) (vs : List Value) (wz : World) : Prop :=
  (d 0 = true → vs[0]?.getD undef = V1) ∧ OwnX (d 1) (vs[1]?.getD undef) wa.heap.size c A wz ∧ (d 2 = true → vs[2]?.getD undef = V2) ∧ OwnX (d 3) (vs[3]?.getD undef) wa.heap.size c B wz ∧ (d 4 = true → d 1 = true ∧ vs[4]?.getD undef = vs[1]?.getD undef) ∧ (d 5 = true → d 3 = true ∧ vs[5]?.getD undef = vs[3]?.getD undef) ∧ (d 1 = true → d 3 = true → blkOf (vs[1]?.getD undef) ≠ blkOf (vs[3]?.getD undef)) ∧ Below wa.heap.size wa wz

end Go.Proofs.YtoihfmammmkloabDoor
/-
  The document's Narrow, Wide, Times, Pairs, Dot of lanes: all of them.
-/
set_option linter.unusedVariables false
set_option linter.unusedSimpArgs false
namespace Go.Proofs.YtoihfmammmkloabDoor
open Go.RowKit Lan

theorem nar_of (f t : Nat) (s : Bool) (a : Int) : Z.Of t (Z.narV f t s a) := by
  have hp : (0 : Int) < 2 ^ t := by exact_mod_cast Nat.two_pow_pos t
  cases s with
  | true => exact cut_of _ _
  | false =>
    show Z.Of t (min (max (Ints.wo f a) 0) (Z.mo t))
    unfold Z.mo
    exact ⟨by omega, by omega⟩
theorem ext_of {f t : Nat} (h : f ≤ t) (s : Bool) {a : Int} (ha : Z.Of f a) : Z.Of t (Z.extV f t s a) := by
  cases s with
  | true => exact cut_of _ _
  | false =>
    show Z.Of t a
    have hp : 2 ^ f ≤ 2 ^ t := Nat.pow_le_pow_right (by decide) h
    have hp2 : (2 ^ f : Int) ≤ 2 ^ t := by exact_mod_cast hp
    exact ⟨ha.1, Int.lt_of_lt_of_le ha.2 hp2⟩
theorem zok {w : Nat} (hw : IsW w) {n : Nat} (h : n < 2 ^ w) : Z.ok1 (w : Int) (n : Int) = true := Z.ok1_of (zw hw) (zof h)

theorem own_list {W W' : World} {f : Nat → Nat} {n : Nat} {e : Ending} (hn : 1 ≤ n) (h : ListOwn W (pre f n) e W') : ListPost W n ((List.range n).map f) e W' := by
  obtain ⟨u, he, ho, hb⟩ := h
  obtain ⟨g, cap, cur, hg, hv, hcap, hblk, hcell⟩ := own_post ho (by rw [pre_length]; exact hn)
  rw [pre_length] at hv hcap hcell
  exact ⟨g, cap, cur, hg, by rw [he, hv], hcap, hblk, hcell, hb⟩

theorem wide_lt_8 (s h : Bool) (a : Nat × Nat) (i : Nat) : vwideN 8 s h a i < 2 ^ 16 := (zlt (ext_of (by decide) s (zof (laneN_lt _ _ _)))).1

theorem wide_lt_16 (s h : Bool) (a : Nat × Nat) (i : Nat) : vwideN 16 s h a i < 2 ^ 32 := (zlt (ext_of (by decide) s (zof (laneN_lt _ _ _)))).1

theorem wide_lt_32 (s h : Bool) (a : Nat × Nat) (i : Nat) : vwideN 32 s h a i < 2 ^ 64 := (zlt (ext_of (by decide) s (zof (laneN_lt _ _ _)))).1

theorem and_most {w : Nat} (hw : IsW w) (n : Nat) : bits .and .u64 (IntKind.u64.wrap (n : Int)) ((2 ^ w - 1 : Nat) : Int) = ((n % 2 ^ w : Nat) : Int) := by
  have e : IntKind.u64.wrap (n : Int) = ((n % 18446744073709551616 : Nat) : Int) := by rw [IntKind.wrap_u64]; omega
  rw [e, ← mo_nat, and_mo hw _ (Nat.mod_lt _ (by decide))]
  congr 1
  rcases hw with rfl | rfl | rfl | rfl <;> exact Nat.mod_mod_of_dvd n (by decide)

theorem isW3_cases {w : Int} (h : isW3 w = true) : w = 8 ∨ w = 16 ∨ w = 32 := by
  unfold isW3 at h
  simp at h
  omega
theorem isW3_not {w : Int} (h : isW3 w = false) : (w != 8) = true ∧ (w != 16) = true ∧ (w != 32) = true := by
  unfold isW3 at h
  simp at h ⊢
  omega

theorem wo_bound {x : Nat} (h : x < 2 ^ 16) : -32768 ≤ Ints.wo 16 (x : Int) ∧ Ints.wo 16 (x : Int) ≤ 32767 := by
  unfold Ints.wo
  split <;> omega
theorem mul_bound {x y : Int} (hx : -32768 ≤ x ∧ x ≤ 32767) (hy : -32768 ≤ y ∧ y ≤ 32767) : -1073741824 ≤ x * y ∧ x * y ≤ 1073741824 := by
  have h1 : x.natAbs ≤ 32768 := by omega
  have h2 : y.natAbs ≤ 32768 := by omega
  have h3 : x.natAbs * y.natAbs ≤ 32768 * 32768 := Nat.mul_le_mul h1 h2
  rw [← Int.natAbs_mul] at h3
  omega
theorem wrap_small {x : Int} (h : -4294967296 ≤ x ∧ x ≤ 4294967296) : wrap64 x = x := by unfold wrap64; omega

end Go.Proofs.YtoihfmammmkloabDoor
