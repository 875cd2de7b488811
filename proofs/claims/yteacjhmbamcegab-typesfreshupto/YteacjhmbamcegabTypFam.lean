/-
  A region that draws its order and only reads and calls, over a family of worlds.
-/
import Derived.Test.YteacjhmbamcegabTypLaw1
import Derived.Deep.RegionWith
import Derived.Deep.QuietTactic
import Derived.Laws.StructEq
set_option linter.unusedVariables false
namespace Go.Proofs.Yteacjhmbamcegab
open Go.RowKit

theorem wp_region_class {I : Type} (F : I → World) {P : Program} {id : Nat} {Q : Exit → Act → World → Prop} {a : Act} {w : World} {l : List Oper} (hm : P.follows .mixedOrders = true) (hB : Region.lexB .any l.toArray = true)
    (h0 : ∃ i, w.drew = F i)
    (h : wpQuiet P l.toArray (fun w' => ∃ i, w' = F i) (fun a' => ∀ w', (∃ i, w' = F i) → Q .normal a' w') l a) : (Code.region id l.toArray true).wp P Q a w :=
  wp_region_quiet (C := fun w' => ∃ i, w' = F i) hm hB h0 (by simpa using h)
theorem family (wa : World) : ∃ (I : Type) (F : I → World), Nonempty I ∧ (∀ i, Below wa.heap.size wa (F i)) ∧ (∀ w', Below wa.heap.size wa w' → ∃ i, w' = F i) :=
  ⟨{ w' // Below wa.heap.size wa w' }, Subtype.val, ⟨⟨wa, Below.refl _ _⟩⟩, fun i => i.2, fun w' h => ⟨⟨w', h⟩, rfl⟩⟩
theorem in_family {wa : World} {I : Type} {F : I → World} (hF : ∀ i, Below wa.heap.size wa (F i)) (hin : ∀ w', Below wa.heap.size wa w' → ∃ i, w' = F i) {f : FuncId} {args : Array Value} {r : Ending}
    (h : ∀ W : World, Below wa.heap.size wa W → Calls Try.prog f args W fun e W' => e = r ∧ Below W.heap.size W W') : ∀ i, Calls Try.prog f args (F i) fun e W' => e = r ∧ ∃ j, W' = F j :=
  fun i => (h (F i) (hF i)).mono fun e W' ⟨he, hb⟩ => ⟨he, hin W' ((hF i).trans (hb.mono (hF i).size))⟩
theorem quiet_same {W : World} {f : FuncId} {args : Array Value} {r : Ending} (h : Calls Try.prog f args W fun e W' => e = r ∧ W' = W) : Calls Try.prog f args W fun e W' => e = r ∧ Below W.heap.size W W' :=
  h.mono fun e W' ⟨he, hw⟩ => ⟨he, by rw [hw]; exact Below.refl _ _⟩
end Go.Proofs.Yteacjhmbamcegab
