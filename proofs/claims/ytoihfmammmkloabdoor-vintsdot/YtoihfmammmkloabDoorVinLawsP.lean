/-
  The laws of vints, over what is asked of its functions.
-/
import Derived.Test.YtoihfmammmkloabDoorPkVinA
import Derived.Test.YtoihfmammmkloabDoorPkVinB
import Derived.Test.YtoihfmammmkloabDoorVinLaw1P
import Derived.Test.YtoihfmammmkloabDoorVinLaw2P
import Derived.Test.YtoihfmammmkloabDoorVinFactsP
set_option linter.unusedVariables false
set_option linter.unusedSimpArgs false
namespace Go.Proofs.YtoihfmammmkloabDoor
open Go.RowKit Lan

/-! What is asked of vints: T says of a world what its tables hold. -/
def VTwoOK (T : World → Prop) : Prop := ∀ (op w : Int) (a b : Nat × Nat), 0 ≤ op → Vok a → Vok b → ∀ W : World, T W → Calls Tryd.prog 18 #[.int .u8 op, .int .i64 w, vecV a, vecV b] W fun e W' => e = .returned (vecE (vtwo op w a b)) ∧ Below W.heap.size W W'
def VThanOK (T : World → Prop) : Prop := ∀ (op w : Int) (a b : Nat × Nat), 0 ≤ op → Vok a → Vok b → ∀ W : World, T W → Calls Tryd.prog 11 #[.int .u8 op, .int .i64 w, vecV a, vecV b] W fun e W' => e = .returned (vecE (vthan op w a b)) ∧ Below W.heap.size W W'
def VAllOK (T : World → Prop) : Prop := ∀ (w : Int) (a : Nat × Nat), Vok a → ∀ W : World, T W → Calls Tryd.prog 13 #[.int .i64 w, vecV a] W fun e W' => e = .returned (.tuple #[.bool (vall w a).1, .int .i64 (vall w a).2]) ∧ Below W.heap.size W W'
def VMaskOK (T : World → Prop) : Prop := ∀ (w : Int) (a : Nat × Nat), Vok a → ∀ W : World, T W → Calls Tryd.prog 12 #[.int .i64 w, vecV a] W fun e W' => e = .returned (.tuple #[.int .u64 (vmask w a).1, .int .i64 (vmask w a).2]) ∧ Below W.heap.size W W'
def VNarOK (T : World → Prop) : Prop := ∀ (w : Int) (s : Bool) (a b : Nat × Nat), Vok a → Vok b → ∀ W : World, T W → Calls Tryd.prog 8 #[.int .i64 w, .bool s, vecV a, vecV b] W fun e W' => e = .returned (vecE (vnar w s a b)) ∧ Below W.heap.size W W'
def VWideOK (T : World → Prop) : Prop := ∀ (w : Int) (s h : Bool) (a : Nat × Nat), Vok a → ∀ W : World, T W → Calls Tryd.prog 7 #[.int .i64 w, .bool s, .bool h, vecV a] W fun e W' => e = .returned (vecE (vwide w s h a)) ∧ Below W.heap.size W W'
def VTimesOK (T : World → Prop) : Prop := ∀ (w : Int) (s h : Bool) (a b : Nat × Nat), Vok a → Vok b → ∀ W : World, T W → Calls Tryd.prog 14 #[.int .i64 w, .bool s, .bool h, vecV a, vecV b] W fun e W' => e = .returned (vecE (vtimes w s h a b)) ∧ Below W.heap.size W W'
def VPairsOK (T : World → Prop) : Prop := ∀ (w : Int) (s : Bool) (a : Nat × Nat), Vok a → ∀ W : World, T W → Calls Tryd.prog 19 #[.int .i64 w, .bool s, vecV a] W fun e W' => e = .returned (vecE (vpairs w s a)) ∧ Below W.heap.size W W'
def VDotOK (T : World → Prop) : Prop := ∀ (a b : Nat × Nat), Vok a → Vok b → ∀ W : World, T W → Calls Tryd.prog 15 #[vecV a, vecV b] W fun e W' => e = .returned (vecE (vdot a b)) ∧ Below W.heap.size W W'
structure TabsLike (T : World → Prop) : Prop where
  later : ∀ W W' : World, T W → Below W.heap.size W W' → T W'
  widths : ∀ W : World, T W → WTabs W

theorem vworks {T : World → Prop} (TL : TabsLike T) (h2 : VTwoOK T) (hm : VMaskOK T) (W : World) (hT : T W) :
    Calls Tryd.prog 9 #[] W fun e W' => e = .returned (.bool true) ∧ Below W.heap.size W W' := by
  have C0 := fun W hT => lsplat_calls 8 255 W (TL.widths W hT)
  have C1 := fun W hT => lsplat_calls 8 1 W (TL.widths W hT)
  have C2 := fun W hT => h2 1 8 (18446744073709551615, 18446744073709551615) (72340172838076673, 72340172838076673) (by decide) ⟨by decide, by decide⟩ ⟨by decide, by decide⟩ W hT
  have C3 := fun W hT => hm 8 (18446744073709551615, 18446744073709551615) ⟨by decide, by decide⟩ W hT
  rw [works_splat1] at C0
  rw [works_splat2] at C1
  rw [works_two] at C2
  rw [works_mask] at C3
  exact vworks_walk T (hide TL.later) 18446744073709551615 72340172838076673 (hide C0) (hide C1) (hide C2) (hide C3) W (hide hT)

end Go.Proofs.YtoihfmammmkloabDoor
