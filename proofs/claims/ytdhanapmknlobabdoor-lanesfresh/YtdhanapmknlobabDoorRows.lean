/-
  NARROWER THAN 'FOR EVERY INPUT', by the rows' own cells (each row's printed sentence says how): LanesSet: laid · LanesShuffles: laid · LanesSelects: laid · LanesFresh: laid.
  DERIVED. THE GIVEN ROWS OF THIS SEAT. 4 by the template 'for every input the law returns true; each argument reads behind the call as it read before'; 0 by the template 'total and deterministic' (their statements: YtdhanapmknlobabDoorTotals.lean).
  GIVEN WITH THE SEED: the statements are not yours to turn. If you find one false, say at which input.
  Laid BY PROGRAM, IN A SANDBOX (cutbox-rows.mjs): the forced cells as the released guide's own fill.sh prints them over the translation 913430140ea45e41… (all of the seat's roots in one cut). By AI agents, Wed Nov 11 2026. No macro, syntax, notation, axiom, sorry.
-/
import Derived.Test.YtdhanapmknlobabDoorChecked
import GoSem.Claim
import GoSem.ClaimJoined
import GoSem.ClaimMapViews
import Derived.JoinedTies
import Derived.KernelRfl
namespace Go.Proofs.YtdhanapmknlobabDoor
/- THE CELL 'sum', in the pinned program and in every row, IS THE sha256 OF THE DUMP (.gsa) THAT YtdhanapmknlobabDoorProg.lean LOADS. Nothing in Lean hashes anything: it is a label: what it is worth is what the hold of that sum in a sandbox is worth. -/
noncomputable def Tryd.pinned : Pinned := { name := "ytdhanapmknlobabdoor", sum := "913430140ea45e41400b5417b36f1e5fc0bc072c01b1babcc5faa38b7dba3f8d", checked := Tryd.checked }
namespace Rows
def none {H : Type} : Left H := { results := [], args := [] }

/- WHAT THE LISTED PACKAGE-LEVEL VARIABLES READ AS WHEN THE CALL BEGINS. Each datum BY PROGRAM (the guide's laid-datum.mjs) off the statement by which the dump's own 'gosem.cut.vars' lays the variable. In a bare row this is a premise. The card (YtdhanapmknlobabDoorCards.lean) ties it to the program's text. -/
def laid_jacquard_ints_widths {H : Type} : DataW H := .agg [.lit (.int .i64 8), .lit (.int .i64 16), .lit (.int .i64 32), .lit (.int .i64 64)]

/-- 'jacquardlaw06.LanesSet': WHATEVER THE INPUT: true; the input reads as it did. -/
def lanesSetSpec : ChangeSpec := { name := "lanesSet", fn := fun _ => fun
  | [d1, d2, d3, d4] => { results := [.lit (.bool true)], args := [d1, d2, d3, d4] }
  | _ => none }
def lanesSetRow : OpenClaim := { program := "ytdhanapmknlobabdoor", sum := "913430140ea45e41400b5417b36f1e5fc0bc072c01b1babcc5faa38b7dba3f8d", func := "jacquard/jacquardlaw06.LanesSet", spec := "lanesSet", named := ["jacquard/ints.widths"], apart := false, laid := [("jacquard/ints.widths", laid_jacquard_ints_widths)] }
def LanesSetSaid : Prop := lanesSetRow.holds Tryd.pinned (OpenSpec.ofChange lanesSetSpec)

/-- ITS FALSE NEIGHBOUR: 'it returns false'. Refute it at one input. -/
def lanesSetWrong : ChangeSpec := { name := "lanesSet", fn := fun _ => fun
  | [d1, d2, d3, d4] => { results := [.lit (.bool false)], args := [d1, d2, d3, d4] }
  | _ => none }
def LanesSetWrongFalsely : Prop := lanesSetRow.holds Tryd.pinned (OpenSpec.ofChange lanesSetWrong)

/-- 'jacquardlaw06.LanesShuffles': WHATEVER THE INPUT: true; the input reads as it did. -/
def lanesShufflesSpec : ChangeSpec := { name := "lanesShuffles", fn := fun _ => fun
  | [d1, d2] => { results := [.lit (.bool true)], args := [d1, d2] }
  | _ => none }
def lanesShufflesRow : OpenClaim := { program := "ytdhanapmknlobabdoor", sum := "913430140ea45e41400b5417b36f1e5fc0bc072c01b1babcc5faa38b7dba3f8d", func := "jacquard/jacquardlaw06.LanesShuffles", spec := "lanesShuffles", named := ["jacquard/ints.widths"], apart := false, laid := [("jacquard/ints.widths", laid_jacquard_ints_widths)] }
def LanesShufflesSaid : Prop := lanesShufflesRow.holds Tryd.pinned (OpenSpec.ofChange lanesShufflesSpec)

/-- ITS FALSE NEIGHBOUR: 'it returns false'. Refute it at one input. -/
def lanesShufflesWrong : ChangeSpec := { name := "lanesShuffles", fn := fun _ => fun
  | [d1, d2] => { results := [.lit (.bool false)], args := [d1, d2] }
  | _ => none }
def LanesShufflesWrongFalsely : Prop := lanesShufflesRow.holds Tryd.pinned (OpenSpec.ofChange lanesShufflesWrong)

/-- 'jacquardlaw06.LanesSelects': WHATEVER THE INPUT: true; the input reads as it did. -/
def lanesSelectsSpec : ChangeSpec := { name := "lanesSelects", fn := fun _ => fun
  | [d1, d2, d3] => { results := [.lit (.bool true)], args := [d1, d2, d3] }
  | _ => none }
def lanesSelectsRow : OpenClaim := { program := "ytdhanapmknlobabdoor", sum := "913430140ea45e41400b5417b36f1e5fc0bc072c01b1babcc5faa38b7dba3f8d", func := "jacquard/jacquardlaw06.LanesSelects", spec := "lanesSelects", named := ["jacquard/ints.widths"], apart := false, laid := [("jacquard/ints.widths", laid_jacquard_ints_widths)] }
def LanesSelectsSaid : Prop := lanesSelectsRow.holds Tryd.pinned (OpenSpec.ofChange lanesSelectsSpec)

/-- ITS FALSE NEIGHBOUR: 'it returns false'. Refute it at one input. -/
def lanesSelectsWrong : ChangeSpec := { name := "lanesSelects", fn := fun _ => fun
  | [d1, d2, d3] => { results := [.lit (.bool false)], args := [d1, d2, d3] }
  | _ => none }
def LanesSelectsWrongFalsely : Prop := lanesSelectsRow.holds Tryd.pinned (OpenSpec.ofChange lanesSelectsWrong)

/-- 'jacquardlaw06.LanesFresh': WHATEVER THE INPUT: true; the input reads as it did. -/
def lanesFreshSpec : ChangeSpec := { name := "lanesFresh", fn := fun _ => fun
  | [d1, d2, d3] => { results := [.lit (.bool true)], args := [d1, d2, d3] }
  | _ => none }
def lanesFreshRow : OpenClaim := { program := "ytdhanapmknlobabdoor", sum := "913430140ea45e41400b5417b36f1e5fc0bc072c01b1babcc5faa38b7dba3f8d", func := "jacquard/jacquardlaw06.LanesFresh", spec := "lanesFresh", named := ["jacquard/ints.widths"], apart := false, laid := [("jacquard/ints.widths", laid_jacquard_ints_widths)] }
def LanesFreshSaid : Prop := lanesFreshRow.holds Tryd.pinned (OpenSpec.ofChange lanesFreshSpec)

/-- ITS FALSE NEIGHBOUR: 'it returns false'. Refute it at one input. -/
def lanesFreshWrong : ChangeSpec := { name := "lanesFresh", fn := fun _ => fun
  | [d1, d2, d3] => { results := [.lit (.bool false)], args := [d1, d2, d3] }
  | _ => none }
def LanesFreshWrongFalsely : Prop := lanesFreshRow.holds Tryd.pinned (OpenSpec.ofChange lanesFreshWrong)

/- THE SECOND FORM. 'bulk': how many values and letters a reading holds, each counted each time it is reached (what is shared counts as often as it is met; a slice's spare places count too). A statement '..UptoSaid' is the law's where the arguments, and the package variables that the reading takes, are together of bulk at most 1048576: NARROWER than '..Said'. Prove '..Said' where nothing that the law and all that it calls make is longer than what came in: it says more and counts as full. Else prove '..UptoSaid'. A law counts once. -/
mutual
def uptoBulk {H : Type} : DataW H → Nat
  | .lit (.string bytes) => bytes.length + 1
  | .lit _ => 1
  | .nil => 1
  | .ptr d => uptoBulk d + 1
  | .slice elems spare => uptoBulkAll elems + uptoBulkAll spare + 1
  | .agg parts => uptoBulkAll parts + 1
  | .iface _ d => uptoBulk d + 1
  | .map entries => uptoBulkEntries entries + 1
  | .held _ => 1
def uptoBulkAll {H : Type} : List (DataW H) → Nat
  | [] => 0
  | d :: r => uptoBulk d + uptoBulkAll r
def uptoBulkEntries {H : Type} : List (Lit × DataW H) → Nat
  | [] => 0
  | x :: r => uptoBulkEntry x + uptoBulkEntries r
def uptoBulkEntry {H : Type} : Lit × DataW H → Nat
  | (.string bytes, d) => bytes.length + uptoBulk d + 1
  | (_, d) => uptoBulk d + 1
 end
def uptoSmall : (H : Type) → List (DataW H) → Bool := fun _ ds => decide (uptoBulkAll ds ≤ 1048576)
def OpenSpec.upto (s : _root_.Go.ChangeSpec) : _root_.Go.OpenSpec := { _root_.Go.OpenSpec.ofChange s with cond := some uptoSmall }

/-- 'jacquardlaw06.LanesSet', WHERE WHAT IT READS IS OF BULK AT MOST 1048576: true; the input reads as it did. -/
def lanesSetUptoRow : OpenClaim := { program := "ytdhanapmknlobabdoor", sum := "913430140ea45e41400b5417b36f1e5fc0bc072c01b1babcc5faa38b7dba3f8d", func := "jacquard/jacquardlaw06.LanesSet", spec := "lanesSet", named := ["jacquard/ints.widths"], apart := false, laid := [("jacquard/ints.widths", laid_jacquard_ints_widths)], narrowed := true }
def LanesSetUptoSaid : Prop := lanesSetUptoRow.holds Tryd.pinned (OpenSpec.upto lanesSetSpec)

/-- 'jacquardlaw06.LanesShuffles', WHERE WHAT IT READS IS OF BULK AT MOST 1048576: true; the input reads as it did. -/
def lanesShufflesUptoRow : OpenClaim := { program := "ytdhanapmknlobabdoor", sum := "913430140ea45e41400b5417b36f1e5fc0bc072c01b1babcc5faa38b7dba3f8d", func := "jacquard/jacquardlaw06.LanesShuffles", spec := "lanesShuffles", named := ["jacquard/ints.widths"], apart := false, laid := [("jacquard/ints.widths", laid_jacquard_ints_widths)], narrowed := true }
def LanesShufflesUptoSaid : Prop := lanesShufflesUptoRow.holds Tryd.pinned (OpenSpec.upto lanesShufflesSpec)

/-- 'jacquardlaw06.LanesSelects', WHERE WHAT IT READS IS OF BULK AT MOST 1048576: true; the input reads as it did. -/
def lanesSelectsUptoRow : OpenClaim := { program := "ytdhanapmknlobabdoor", sum := "913430140ea45e41400b5417b36f1e5fc0bc072c01b1babcc5faa38b7dba3f8d", func := "jacquard/jacquardlaw06.LanesSelects", spec := "lanesSelects", named := ["jacquard/ints.widths"], apart := false, laid := [("jacquard/ints.widths", laid_jacquard_ints_widths)], narrowed := true }
def LanesSelectsUptoSaid : Prop := lanesSelectsUptoRow.holds Tryd.pinned (OpenSpec.upto lanesSelectsSpec)

/-- 'jacquardlaw06.LanesFresh', WHERE WHAT IT READS IS OF BULK AT MOST 1048576: true; the input reads as it did. -/
def lanesFreshUptoRow : OpenClaim := { program := "ytdhanapmknlobabdoor", sum := "913430140ea45e41400b5417b36f1e5fc0bc072c01b1babcc5faa38b7dba3f8d", func := "jacquard/jacquardlaw06.LanesFresh", spec := "lanesFresh", named := ["jacquard/ints.widths"], apart := false, laid := [("jacquard/ints.widths", laid_jacquard_ints_widths)], narrowed := true }
def LanesFreshUptoSaid : Prop := lanesFreshUptoRow.holds Tryd.pinned (OpenSpec.upto lanesFreshSpec)

end Rows
end Go.Proofs.YtdhanapmknlobabDoor
