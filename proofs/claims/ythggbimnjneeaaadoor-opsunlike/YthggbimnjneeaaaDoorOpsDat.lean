/-
  The table of instructions, as data: what the kernel reckons of it.
-/
import Derived.Test.YthggbimnjneeaaaDoorOpsOfR
set_option linter.unusedVariables false
set_option maxRecDepth 100000
set_option linter.unusedSimpArgs false
namespace Go.Proofs.YthggbimnjneeaaaDoor
open Go.RowKit Opp

def rowsF (f : Fam) : List InfoD := (List.range (wordsL f.names).length).map (infoD f)
def rowsD : List InfoD := allF.flatten.flatMap rowsF
def namedD (s : ByteArray) : Option Nat := (rowsD.find? (fun r => decide (str r.name = s))).map (·.op)
/-- The numbers, rising: each of a list is put where it belongs. -/
def putIn (x : Nat) : List Nat → List Nat
  | [] => [x]
  | y :: l => if x ≤ y then x :: y :: l else y :: putIn x l
def allOps : List Nat := (rowsD.map (·.op)).foldl (fun l x => putIn x l) []
def risesB : List Nat → Bool
  | a :: b :: l => decide (a < b) && risesB (b :: l)
  | _ => true
def eqL : List Nat → List Nat → Bool
  | [], [] => true
  | a :: x, b :: y => Nat.beq a b && eqL x y
  | _, _ => false
theorem eqL_iff : ∀ (a b : List Nat), eqL a b = true ↔ a = b
  | [], [] => by simp [eqL]
  | [], b :: y => by simp [eqL]
  | a :: x, [] => by simp [eqL]
  | a :: x, b :: y => by
    simp only [eqL, Bool.and_eq_true, Nat.beq_eq, List.cons.injEq]
    rw [eqL_iff x y]
def otherB (r : InfoD) (l : List InfoD) : Bool := l.all fun q => !(eqL q.name r.name)
def unlikeB : List InfoD → Bool
  | [] => true
  | r :: l => otherB r l && unlikeB l
def memB (x : Nat) (l : List Nat) : Bool := l.any fun y => Nat.beq x y
theorem memB_iff (x : Nat) (l : List Nat) : memB x l = true ↔ x ∈ l := by
  unfold memB
  rw [List.any_eq_true]
  constructor
  · rintro ⟨y, hy, h⟩
    rw [Nat.beq_eq] at h
    subst h
    exact hy
  · intro h
    exact ⟨x, h, Nat.beq_refl x⟩

theorem rows_let : (rowsD.all fun r => letB r.name && decide (r.name.length ≤ 100) && decide (0 < r.name.length)) = true := by kernel_rfl
theorem rows_len : rowsD.length = 435 := by kernel_rfl
theorem rows_unlike : unlikeB rowsD = true := by kernel_rfl
theorem rows_of : (rowsD.all fun r => decide (ofD r.op = some r)) = true := by kernel_rfl
theorem ops_len : allOps.length = 435 := by kernel_rfl
theorem ops_rise : risesB allOps = true := by kernel_rfl
theorem ops_in : (rowsD.all fun r => memB r.op allOps) = true := by kernel_rfl
theorem ops_of : (allOps.all fun o => (ofD o).isSome) = true := by kernel_rfl
theorem ops_one : allOps[1]? = some 1 := by kernel_rfl
end Go.Proofs.YthggbimnjneeaaaDoor
