/-
  'name.Is'.
-/
import Derived.Test.YthillphedjjhjabDoorNameValid
set_option linter.unusedVariables false
namespace Go.Proofs.YthillphedjjhjabDoor
open Go.RowKit

set_option maxHeartbeats 4000000 in
set_option maxRecDepth 1000000 in
theorem valid_empty (a : Option Addr) (c : Nat) (w : World) (hc : a = none → c = 0) :
    Calls Tryd.prog 20 #[.slice a 0 c] w fun e w' => e = .returned (.bool true) ∧ Below w.heap.size w w' := by
  cases a with
  | none =>
    obtain rfl := hc rfl
    go_enter Tryd.func20, Tryd.ntmps20
    go_wp2
    go_loopg [0] 1 (fun gk s0 wx => wx = w ∧ s0 = .slice none 0 0)
    case atStart => exact ⟨rfl, rfl⟩
    case round =>
      obtain ⟨rfl, rfl⟩ := hrel
      go_wp2
      go_ret
      exact ⟨rfl, Below.refl _ _⟩
  | some x =>
    go_enter Tryd.func20, Tryd.ntmps20
    go_wp2
    go_loopg [0] 1 (fun gk s0 wx => wx = w ∧ s0 = .slice (some x) 0 0)
    case atStart => exact ⟨rfl, rfl⟩
    case round =>
      obtain ⟨rfl, rfl⟩ := hrel
      go_wp2
      go_ret
      exact ⟨rfl, Below.refl _ _⟩

theorem valid_calls (a : Option Addr) (len cap : Nat) (l : List Int) (w : World) (H : Row w a len cap l) (hT : Tabs w) :
    Calls Tryd.prog 20 #[.slice a len cap] w fun e w' => e = .returned (.bool (Utf.isText l)) ∧ Below w.heap.size w w' := by
  obtain ⟨hl, hcap, hcm, hb, ha, hc⟩ := H
  by_cases h : 0 < len
  · obtain ⟨b, off, rfl, hcell⟩ := hc h
    exact valid_walk b off len cap l w hl hb (by unfold maxLen at hcm; omega) hcap hcell hT
  · obtain rfl : len = 0 := by omega
    have hl0 : l = [] := List.eq_nil_of_length_eq_zero hl
    subst hl0
    exact valid_empty a cap w ha

theorem Is_calls (a : Option Addr) (len cap : Nat) (l : List Int) (w : World) (H : Row w a len cap l) (hT : Tabs w) :
    Calls Tryd.prog 15 #[.slice a len cap] w fun e w' => e = .returned (.bool (Utf.isText l)) ∧ Below w.heap.size w w' := by
  have C1 := hide (valid_calls a len cap l w H hT)
  clear H hT
  go_enter Tryd.func15, Tryd.ntmps15
  go_wp2_with fail
  refine C1.out.mono ?_
  rintro e w1 ⟨rfl, hb1⟩
  have HB := hide hb1
  clear C1 hb1
  go_wp2
  go_ret
  exact ⟨rfl, HB.out⟩

end Go.Proofs.YthillphedjjhjabDoor
