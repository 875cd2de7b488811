/-
  No cell of these rows narrows 'for every input' (looked for: loops, veiled, ifaces, maps, wideKeys, modest, calm, conditions, laid).
  DERIVED. THE GIVEN ROWS OF THIS SEAT. 4 by the template 'for every input the law returns true; each argument reads behind the call as it read before'; 0 by the template 'total and deterministic' (their statements: YtgmakjmlkepfbabTotals.lean).
  GIVEN WITH THE SEED: the statements are not yours to turn. If you find one false, say at which input.
  Laid BY PROGRAM, IN A SANDBOX (cutbox-rows.mjs): the forced cells as the released guide's own fill.sh prints them over the translation ee240c6f9b306040… (all of the seat's roots in one cut). By AI agents, Wed Nov 11 2026. No macro, syntax, notation, axiom, sorry.
-/
import Derived.Test.YtgmakjmlkepfbabChecked
import GoSem.Claim
import GoSem.ClaimJoined
import GoSem.ClaimMapViews
import Derived.JoinedTies
import Derived.KernelRfl
namespace Go.Proofs.Ytgmakjmlkepfbab
/- THE CELL 'sum', in the pinned program and in every row, IS THE sha256 OF THE DUMP (.gsa) THAT YtgmakjmlkepfbabProg.lean LOADS. Nothing in Lean hashes anything: it is a label: what it is worth is what the hold of that sum in a sandbox is worth. -/
noncomputable def Try.pinned : Pinned := { name := "ytgmakjmlkepfbab", sum := "ee240c6f9b3060400eaf3cc802a5c44222d11c52185fb3873b847663b62adca1", checked := Try.checked }
namespace Rows
def none {H : Type} : Left H := { results := [], args := [] }

/-- 'jacquardlaw04.FloatsLeast': WHATEVER THE INPUT: true; the input reads as it did. -/
def floatsLeastSpec : ChangeSpec := { name := "floatsLeast", fn := fun _ => fun
  | [d1, d2, d3] => { results := [.lit (.bool true)], args := [d1, d2, d3] }
  | _ => none }
def floatsLeastRow : OpenClaim := { program := "ytgmakjmlkepfbab", sum := "ee240c6f9b3060400eaf3cc802a5c44222d11c52185fb3873b847663b62adca1", func := "jacquard/jacquardlaw04.FloatsLeast", spec := "floatsLeast", inPlace := ["math.Float32frombits", "math.Float64frombits", "math.Float32bits", "math.Float64bits"], unfollowed := true, recurses := true, apart := false }
def FloatsLeastSaid : Prop := floatsLeastRow.holds Try.pinned (OpenSpec.ofChange floatsLeastSpec)

/-- ITS FALSE NEIGHBOUR: 'it returns false'. Refute it at one input. -/
def floatsLeastWrong : ChangeSpec := { name := "floatsLeast", fn := fun _ => fun
  | [d1, d2, d3] => { results := [.lit (.bool false)], args := [d1, d2, d3] }
  | _ => none }
def FloatsLeastWrongFalsely : Prop := floatsLeastRow.holds Try.pinned (OpenSpec.ofChange floatsLeastWrong)

/-- 'jacquardlaw04.FloatsWhole': WHATEVER THE INPUT: true; the input reads as it did. -/
def floatsWholeSpec : ChangeSpec := { name := "floatsWhole", fn := fun _ => fun
  | [d1, d2] => { results := [.lit (.bool true)], args := [d1, d2] }
  | _ => none }
def floatsWholeRow : OpenClaim := { program := "ytgmakjmlkepfbab", sum := "ee240c6f9b3060400eaf3cc802a5c44222d11c52185fb3873b847663b62adca1", func := "jacquard/jacquardlaw04.FloatsWhole", spec := "floatsWhole", inPlace := ["math.Float32frombits", "math.Float64frombits", "math.sqrt", "math.Float32bits", "math.Float64bits", "math.archCeil", "math.archFloor", "math.archTrunc", "math.RoundToEven"], unfollowed := true, recurses := true, apart := false }
def FloatsWholeSaid : Prop := floatsWholeRow.holds Try.pinned (OpenSpec.ofChange floatsWholeSpec)

/-- ITS FALSE NEIGHBOUR: 'it returns false'. Refute it at one input. -/
def floatsWholeWrong : ChangeSpec := { name := "floatsWhole", fn := fun _ => fun
  | [d1, d2] => { results := [.lit (.bool false)], args := [d1, d2] }
  | _ => none }
def FloatsWholeWrongFalsely : Prop := floatsWholeRow.holds Try.pinned (OpenSpec.ofChange floatsWholeWrong)

/-- 'jacquardlaw04.FloatsRoot': WHATEVER THE INPUT: true; the input reads as it did. -/
def floatsRootSpec : ChangeSpec := { name := "floatsRoot", fn := fun _ => fun
  | [d1, d2, d3] => { results := [.lit (.bool true)], args := [d1, d2, d3] }
  | _ => none }
def floatsRootRow : OpenClaim := { program := "ytgmakjmlkepfbab", sum := "ee240c6f9b3060400eaf3cc802a5c44222d11c52185fb3873b847663b62adca1", func := "jacquard/jacquardlaw04.FloatsRoot", spec := "floatsRoot", inPlace := ["math.Float32frombits", "math.Float64frombits", "math.sqrt", "math.Float32bits", "math.Float64bits", "math.archCeil", "math.archFloor", "math.archTrunc", "math.RoundToEven"], unfollowed := true, recurses := true, apart := false }
def FloatsRootSaid : Prop := floatsRootRow.holds Try.pinned (OpenSpec.ofChange floatsRootSpec)

/-- ITS FALSE NEIGHBOUR: 'it returns false'. Refute it at one input. -/
def floatsRootWrong : ChangeSpec := { name := "floatsRoot", fn := fun _ => fun
  | [d1, d2, d3] => { results := [.lit (.bool false)], args := [d1, d2, d3] }
  | _ => none }
def FloatsRootWrongFalsely : Prop := floatsRootRow.holds Try.pinned (OpenSpec.ofChange floatsRootWrong)

/-- 'jacquardlaw04.FloatsPlaces': WHATEVER THE INPUT: true; the input reads as it did. -/
def floatsPlacesSpec : ChangeSpec := { name := "floatsPlaces", fn := fun _ => fun
  | [d1, d2, d3, d4] => { results := [.lit (.bool true)], args := [d1, d2, d3, d4] }
  | _ => none }
def floatsPlacesRow : OpenClaim := { program := "ytgmakjmlkepfbab", sum := "ee240c6f9b3060400eaf3cc802a5c44222d11c52185fb3873b847663b62adca1", func := "jacquard/jacquardlaw04.FloatsPlaces", spec := "floatsPlaces", inPlace := ["math.Float32frombits", "math.Float32bits", "math.Float64frombits", "math.Float64bits", "math.sqrt", "math.archCeil", "math.archFloor", "math.archTrunc", "math.RoundToEven"], unfollowed := true, recurses := true, apart := false }
def FloatsPlacesSaid : Prop := floatsPlacesRow.holds Try.pinned (OpenSpec.ofChange floatsPlacesSpec)

/-- ITS FALSE NEIGHBOUR: 'it returns false'. Refute it at one input. -/
def floatsPlacesWrong : ChangeSpec := { name := "floatsPlaces", fn := fun _ => fun
  | [d1, d2, d3, d4] => { results := [.lit (.bool false)], args := [d1, d2, d3, d4] }
  | _ => none }
def FloatsPlacesWrongFalsely : Prop := floatsPlacesRow.holds Try.pinned (OpenSpec.ofChange floatsPlacesWrong)

/- THE SECOND FORM. 'bulk': how many values and letters a reading holds, each counted each time it is reached (what is shared counts as often as it is met; a slice's spare places count too). A statement '..UptoSaid' is the law's where the arguments, and the package variables that the reading takes, are together of bulk at most 1048576: NARROWER than '..Said'. Prove '..Said' where nothing that the law and all that it calls make is longer than what came in: it says more and counts as full. Else prove '..UptoSaid'. A law counts once. -/
mutual
def uptoBulk {H : Type} : DataW H → Nat
  | .lit (.string bytes) => bytes.length + 1
  | .lit _ => 1
  | .nil => 1
  | .ptr d => uptoBulk d + 1
  | .slice elems spare => uptoBulkAll elems + uptoBulkAll spare + 1
  | .agg parts => uptoBulkAll parts + 1
  | .iface _ d => uptoBulk d + 1
  | .map entries => uptoBulkEntries entries + 1
  | .held _ => 1
def uptoBulkAll {H : Type} : List (DataW H) → Nat
  | [] => 0
  | d :: r => uptoBulk d + uptoBulkAll r
def uptoBulkEntries {H : Type} : List (Lit × DataW H) → Nat
  | [] => 0
  | x :: r => uptoBulkEntry x + uptoBulkEntries r
def uptoBulkEntry {H : Type} : Lit × DataW H → Nat
  | (.string bytes, d) => bytes.length + uptoBulk d + 1
  | (_, d) => uptoBulk d + 1
 end
def uptoSmall : (H : Type) → List (DataW H) → Bool := fun _ ds => decide (uptoBulkAll ds ≤ 1048576)
def OpenSpec.upto (s : _root_.Go.ChangeSpec) : _root_.Go.OpenSpec := { _root_.Go.OpenSpec.ofChange s with cond := some uptoSmall }

/-- 'jacquardlaw04.FloatsLeast', WHERE WHAT IT READS IS OF BULK AT MOST 1048576: true; the input reads as it did. -/
def floatsLeastUptoRow : OpenClaim := { program := "ytgmakjmlkepfbab", sum := "ee240c6f9b3060400eaf3cc802a5c44222d11c52185fb3873b847663b62adca1", func := "jacquard/jacquardlaw04.FloatsLeast", spec := "floatsLeast", inPlace := ["math.Float32frombits", "math.Float64frombits", "math.Float32bits", "math.Float64bits"], unfollowed := true, recurses := true, apart := false, narrowed := true }
def FloatsLeastUptoSaid : Prop := floatsLeastUptoRow.holds Try.pinned (OpenSpec.upto floatsLeastSpec)

/-- 'jacquardlaw04.FloatsWhole', WHERE WHAT IT READS IS OF BULK AT MOST 1048576: true; the input reads as it did. -/
def floatsWholeUptoRow : OpenClaim := { program := "ytgmakjmlkepfbab", sum := "ee240c6f9b3060400eaf3cc802a5c44222d11c52185fb3873b847663b62adca1", func := "jacquard/jacquardlaw04.FloatsWhole", spec := "floatsWhole", inPlace := ["math.Float32frombits", "math.Float64frombits", "math.sqrt", "math.Float32bits", "math.Float64bits", "math.archCeil", "math.archFloor", "math.archTrunc", "math.RoundToEven"], unfollowed := true, recurses := true, apart := false, narrowed := true }
def FloatsWholeUptoSaid : Prop := floatsWholeUptoRow.holds Try.pinned (OpenSpec.upto floatsWholeSpec)

/-- 'jacquardlaw04.FloatsRoot', WHERE WHAT IT READS IS OF BULK AT MOST 1048576: true; the input reads as it did. -/
def floatsRootUptoRow : OpenClaim := { program := "ytgmakjmlkepfbab", sum := "ee240c6f9b3060400eaf3cc802a5c44222d11c52185fb3873b847663b62adca1", func := "jacquard/jacquardlaw04.FloatsRoot", spec := "floatsRoot", inPlace := ["math.Float32frombits", "math.Float64frombits", "math.sqrt", "math.Float32bits", "math.Float64bits", "math.archCeil", "math.archFloor", "math.archTrunc", "math.RoundToEven"], unfollowed := true, recurses := true, apart := false, narrowed := true }
def FloatsRootUptoSaid : Prop := floatsRootUptoRow.holds Try.pinned (OpenSpec.upto floatsRootSpec)

/-- 'jacquardlaw04.FloatsPlaces', WHERE WHAT IT READS IS OF BULK AT MOST 1048576: true; the input reads as it did. -/
def floatsPlacesUptoRow : OpenClaim := { program := "ytgmakjmlkepfbab", sum := "ee240c6f9b3060400eaf3cc802a5c44222d11c52185fb3873b847663b62adca1", func := "jacquard/jacquardlaw04.FloatsPlaces", spec := "floatsPlaces", inPlace := ["math.Float32frombits", "math.Float32bits", "math.Float64frombits", "math.Float64bits", "math.sqrt", "math.archCeil", "math.archFloor", "math.archTrunc", "math.RoundToEven"], unfollowed := true, recurses := true, apart := false, narrowed := true }
def FloatsPlacesUptoSaid : Prop := floatsPlacesUptoRow.holds Try.pinned (OpenSpec.upto floatsPlacesSpec)

end Rows
end Go.Proofs.Ytgmakjmlkepfbab
