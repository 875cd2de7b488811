/-
  The landed code's rows, as data, against the document's.
-/
import Derived.Test.YthggbimnjneeaaaDoorOcFamD
import Derived.Test.YthggbimnjneeaaaDoorOpsAsk
set_option linter.unusedVariables false
set_option maxRecDepth 100000
set_option linter.unusedSimpArgs false
namespace Go.Proofs.YthggbimnjneeaaaDoor
open Go.RowKit Opp Opc

/-- What stands ahead of the first point; nothing where there is none. -/
def headC (l : List Nat) : List Nat := l.take (l.findIdx (· == 46))
def dotB (l : List Nat) : Bool := l.any (· == 46)
/-- A name of a family's text, with what it has from the first one. -/
def wholeC (names part : List Nat) : List Nat := if !dotB names || dotB part then part else headC names ++ [46] ++ part
def infoC (f : FamC) (pl : Bool) (n : Nat) : InfoD :=
  ⟨f.first + n, wholeC f.names ((wordsL f.names)[n]?.getD []), f.imm, typesL (f.types.take (cutOf f.types)), typesL (f.types.drop (cutOf f.types + 1)), f.bits, pl⟩
/-- From i down: the first number that serves. -/
def downTo (p : Nat → Bool) : Nat → Nat
  | 0 => 0
  | i + 1 => if p (i + 1) then i + 1 else downTo p i
theorem downTo_le (p : Nat → Bool) : ∀ i, downTo p i ≤ i
  | 0 => Nat.le_refl _
  | i + 1 => by
    unfold downTo
    split
    · exact Nat.le_refl _
    · exact Nat.le_trans (downTo_le p i) (Nat.le_succ i)
def zeroF : FamC := ⟨0, [], [], 0, 0⟩
def spanAt (i : Nat) : Nat × List FamC × Bool := spansC[i]?.getD (0, [], false)
def famAtC (l : List FamC) (j : Nat) : FamC := l[j]?.getD zeroF
def spanI (o : Nat) : Nat := downTo (fun i => decide ((spanAt i).1 ≤ o)) 16
def famJ (l : List FamC) (o : Nat) : Nat := downTo (fun j => decide ((famAtC l j).names ≠ []) && decide ((famAtC l j).first ≤ o)) 19
def hitC (o : Nat) (f : FamC) (pl : Bool) : Option InfoD :=
  if o - f.first < (wordsL f.names).length ∧ f.first ≤ o then some (infoC f pl (o - f.first)) else none
def famOf (o : Nat) : FamC := famAtC (spanAt (spanI o)).2.1 (famJ (spanAt (spanI o)).2.1 o)
def ofC (o : Nat) : Option InfoD := hitC o (famOf o) (spanAt (spanI o)).2.2
def rowsCF (pl : Bool) (f : FamC) : List InfoD := (List.range (wordsL f.names).length).map (infoC f pl)
def rowsC : List InfoD := spansC.flatMap fun s => s.2.1.flatMap (rowsCF s.2.2)

theorem rowsC_of : (rowsC.all fun R => decide (ofD R.op = some R)) = true := by kernel_rfl
theorem rowsD_of : (rowsD.all fun R => decide (ofC R.op = some R)) = true := by kernel_rfl
def eqN : List Nat → List Nat → Bool
  | [], [] => true
  | a :: x, b :: y => Nat.beq a b && eqN x y
  | _, _ => false
theorem rowsC_ops : eqL (rowsC.map (·.op)) allOps = true := by kernel_rfl

theorem ofC_mem {o : Nat} {R : InfoD} (h : ofC o = some R) : R ∈ rowsC ∧ R.op = o := by
  have hi : spanI o < spansC.length := by
    have := downTo_le (fun i => decide ((spanAt i).1 ≤ o)) 16
    unfold spanI
    exact Nat.lt_of_le_of_lt this (by decide)
  unfold ofC hitC at h
  split at h
  · rename_i c
    injection h with h
    subst h
    refine ⟨?_, ?_⟩
    · unfold rowsC
      refine List.mem_flatMap.2 ⟨spanAt (spanI o), ?_, List.mem_flatMap.2 ⟨famOf o, ?_, List.mem_map.2 ⟨o - (famOf o).first, List.mem_range.2 c.1, rfl⟩⟩⟩
      · unfold spanAt
        rw [List.getElem?_eq_getElem hi, Option.getD_some]
        exact List.getElem_mem hi
      · have hj : famJ (spanAt (spanI o)).2.1 o < (spanAt (spanI o)).2.1.length := by
          rcases Nat.lt_or_ge (famJ (spanAt (spanI o)).2.1 o) (spanAt (spanI o)).2.1.length with h1 | h1
          · exact h1
          · exfalso
            have hz : famOf o = zeroF := by
              unfold famOf famAtC
              rw [List.getElem?_eq_none h1]
              rfl
            rw [hz] at c
            exact absurd c.1 (by show ¬ (o - 0 < 0); omega)
        show famAtC (spanAt (spanI o)).2.1 (famJ (spanAt (spanI o)).2.1 o) ∈ _
        unfold famAtC
        rw [List.getElem?_eq_getElem hj, Option.getD_some]
        exact List.getElem_mem hj
    · show (famOf o).first + (o - (famOf o).first) = o
      omega
  · cases h
theorem ofC_eq (o : Nat) : ofC o = ofD o := by
  cases hc : ofC o with
  | some R =>
    obtain ⟨h1, rfl⟩ := ofC_mem hc
    exact (of_decide_eq_true (List.all_eq_true.1 rowsC_of R h1)).symm
  | none =>
    cases hd : ofD o with
    | none => rfl
    | some R =>
      obtain ⟨h1, rfl⟩ := ofD_mem hd
      have := of_decide_eq_true (List.all_eq_true.1 rowsD_of R h1)
      rw [hc] at this
      cases this
theorem rowsC_mem (R : InfoD) : R ∈ rowsC ↔ R ∈ rowsD := by
  constructor
  · intro h
    exact (ofD_mem (of_decide_eq_true (List.all_eq_true.1 rowsC_of R h))).1
  · intro h
    exact (ofC_mem (of_decide_eq_true (List.all_eq_true.1 rowsD_of R h))).1
theorem rowsC_all : rowsC.map (·.op) = allOps := (eqL_iff _ _).1 rowsC_ops

/-- The number of the first row of that name. -/
theorem namedC_some {s : ByteArray} {R : InfoD} (h : R ∈ rowsC) (hs : str R.name = s) : namedD s = some R.op :=
  namedD_some.2 ⟨R, (rowsC_mem R).1 h, hs, rfl⟩
theorem namedC_none {s : ByteArray} (h : ∀ R ∈ rowsC, str R.name ≠ s) : namedD s = none := by
  cases hd : namedD s with
  | none => rfl
  | some o =>
    obtain ⟨R, h1, h2, _⟩ := namedD_some.1 hd
    exact absurd h2 (h R ((rowsC_mem R).2 h1))
end Go.Proofs.YthggbimnjneeaaaDoor
