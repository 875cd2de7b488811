/-
  No cell of these rows narrows 'for every input' (looked for: loops, veiled, ifaces, maps, wideKeys, modest, calm, conditions, laid).
  DERIVED. THE GIVEN ROWS OF THIS SEAT. 6 by the template 'for every input the law returns true; each argument reads behind the call as it read before'; 0 by the template 'total and deterministic' (their statements: YtbhihlahnllpgaaTotals.lean).
  GIVEN WITH THE SEED: the statements are not yours to turn. If you find one false, say at which input.
  Laid BY PROGRAM, IN A SANDBOX (cutbox-rows.mjs): the forced cells as the released guide's own fill.sh prints them over the translation 7e86db1acdffa53c… (all of the seat's roots in one cut). By AI agents, Wed Nov 11 2026. No macro, syntax, notation, axiom, sorry.
-/
import Derived.Test.YtbhihlahnllpgaaChecked
import GoSem.Claim
import GoSem.ClaimJoined
import GoSem.ClaimMapViews
import Derived.JoinedTies
import Derived.KernelRfl
namespace Go.Proofs.Ytbhihlahnllpgaa
/- THE CELL 'sum', in the pinned program and in every row, IS THE sha256 OF THE DUMP (.gsa) THAT YtbhihlahnllpgaaProg.lean LOADS. Nothing in Lean hashes anything: it is a label: what it is worth is what the hold of that sum in a sandbox is worth. -/
noncomputable def Try.pinned : Pinned := { name := "ytbhihlahnllpgaa", sum := "7e86db1acdffa53ceec95554d8e3e87ce362d460b4d1eb11fc3d658bf07b8b31", checked := Try.checked }
namespace Rows
def none {H : Type} : Left H := { results := [], args := [] }

/-- 'jacquardlaw01.LebUnsigned': WHATEVER THE INPUT: true; the input reads as it did. -/
def lebUnsignedSpec : ChangeSpec := { name := "lebUnsigned", fn := fun _ => fun
  | [d1, d2, d3] => { results := [.lit (.bool true)], args := [d1, d2, d3] }
  | _ => none }
def lebUnsignedRow : OpenClaim := { program := "ytbhihlahnllpgaa", sum := "7e86db1acdffa53ceec95554d8e3e87ce362d460b4d1eb11fc3d658bf07b8b31", func := "jacquard/jacquardlaw01.LebUnsigned", spec := "lebUnsigned", apart := false }
def LebUnsignedSaid : Prop := lebUnsignedRow.holds Try.pinned (OpenSpec.ofChange lebUnsignedSpec)

/-- ITS FALSE NEIGHBOUR: 'it returns false'. Refute it at one input. -/
def lebUnsignedWrong : ChangeSpec := { name := "lebUnsigned", fn := fun _ => fun
  | [d1, d2, d3] => { results := [.lit (.bool false)], args := [d1, d2, d3] }
  | _ => none }
def LebUnsignedWrongFalsely : Prop := lebUnsignedRow.holds Try.pinned (OpenSpec.ofChange lebUnsignedWrong)

/-- 'jacquardlaw01.LebSigned': WHATEVER THE INPUT: true; the input reads as it did. -/
def lebSignedSpec : ChangeSpec := { name := "lebSigned", fn := fun _ => fun
  | [d1, d2, d3] => { results := [.lit (.bool true)], args := [d1, d2, d3] }
  | _ => none }
def lebSignedRow : OpenClaim := { program := "ytbhihlahnllpgaa", sum := "7e86db1acdffa53ceec95554d8e3e87ce362d460b4d1eb11fc3d658bf07b8b31", func := "jacquard/jacquardlaw01.LebSigned", spec := "lebSigned", apart := false }
def LebSignedSaid : Prop := lebSignedRow.holds Try.pinned (OpenSpec.ofChange lebSignedSpec)

/-- ITS FALSE NEIGHBOUR: 'it returns false'. Refute it at one input. -/
def lebSignedWrong : ChangeSpec := { name := "lebSigned", fn := fun _ => fun
  | [d1, d2, d3] => { results := [.lit (.bool false)], args := [d1, d2, d3] }
  | _ => none }
def LebSignedWrongFalsely : Prop := lebSignedRow.holds Try.pinned (OpenSpec.ofChange lebSignedWrong)

/-- 'jacquardlaw01.LebShort': WHATEVER THE INPUT: true; the input reads as it did. -/
def lebShortSpec : ChangeSpec := { name := "lebShort", fn := fun _ => fun
  | [d1, d2] => { results := [.lit (.bool true)], args := [d1, d2] }
  | _ => none }
def lebShortRow : OpenClaim := { program := "ytbhihlahnllpgaa", sum := "7e86db1acdffa53ceec95554d8e3e87ce362d460b4d1eb11fc3d658bf07b8b31", func := "jacquard/jacquardlaw01.LebShort", spec := "lebShort", recurses := true, apart := false }
def LebShortSaid : Prop := lebShortRow.holds Try.pinned (OpenSpec.ofChange lebShortSpec)

/-- ITS FALSE NEIGHBOUR: 'it returns false'. Refute it at one input. -/
def lebShortWrong : ChangeSpec := { name := "lebShort", fn := fun _ => fun
  | [d1, d2] => { results := [.lit (.bool false)], args := [d1, d2] }
  | _ => none }
def LebShortWrongFalsely : Prop := lebShortRow.holds Try.pinned (OpenSpec.ofChange lebShortWrong)

/-- 'jacquardlaw01.LebBack': WHATEVER THE INPUT: true; the input reads as it did. -/
def lebBackSpec : ChangeSpec := { name := "lebBack", fn := fun _ => fun
  | [d1, d2, d3, d4] => { results := [.lit (.bool true)], args := [d1, d2, d3, d4] }
  | _ => none }
def lebBackRow : OpenClaim := { program := "ytbhihlahnllpgaa", sum := "7e86db1acdffa53ceec95554d8e3e87ce362d460b4d1eb11fc3d658bf07b8b31", func := "jacquard/jacquardlaw01.LebBack", spec := "lebBack", apart := false }
def LebBackSaid : Prop := lebBackRow.holds Try.pinned (OpenSpec.ofChange lebBackSpec)

/-- ITS FALSE NEIGHBOUR: 'it returns false'. Refute it at one input. -/
def lebBackWrong : ChangeSpec := { name := "lebBack", fn := fun _ => fun
  | [d1, d2, d3, d4] => { results := [.lit (.bool false)], args := [d1, d2, d3, d4] }
  | _ => none }
def LebBackWrongFalsely : Prop := lebBackRow.holds Try.pinned (OpenSpec.ofChange lebBackWrong)

/-- 'jacquardlaw01.LebBackSigned': WHATEVER THE INPUT: true; the input reads as it did. -/
def lebBackSignedSpec : ChangeSpec := { name := "lebBackSigned", fn := fun _ => fun
  | [d1, d2, d3, d4] => { results := [.lit (.bool true)], args := [d1, d2, d3, d4] }
  | _ => none }
def lebBackSignedRow : OpenClaim := { program := "ytbhihlahnllpgaa", sum := "7e86db1acdffa53ceec95554d8e3e87ce362d460b4d1eb11fc3d658bf07b8b31", func := "jacquard/jacquardlaw01.LebBackSigned", spec := "lebBackSigned", apart := false }
def LebBackSignedSaid : Prop := lebBackSignedRow.holds Try.pinned (OpenSpec.ofChange lebBackSignedSpec)

/-- ITS FALSE NEIGHBOUR: 'it returns false'. Refute it at one input. -/
def lebBackSignedWrong : ChangeSpec := { name := "lebBackSigned", fn := fun _ => fun
  | [d1, d2, d3, d4] => { results := [.lit (.bool false)], args := [d1, d2, d3, d4] }
  | _ => none }
def LebBackSignedWrongFalsely : Prop := lebBackSignedRow.holds Try.pinned (OpenSpec.ofChange lebBackSignedWrong)

/-- 'jacquardlaw01.LebLeast': WHATEVER THE INPUT: true; the input reads as it did. -/
def lebLeastSpec : ChangeSpec := { name := "lebLeast", fn := fun _ => fun
  | [d1, d2, d3] => { results := [.lit (.bool true)], args := [d1, d2, d3] }
  | _ => none }
def lebLeastRow : OpenClaim := { program := "ytbhihlahnllpgaa", sum := "7e86db1acdffa53ceec95554d8e3e87ce362d460b4d1eb11fc3d658bf07b8b31", func := "jacquard/jacquardlaw01.LebLeast", spec := "lebLeast", apart := false }
def LebLeastSaid : Prop := lebLeastRow.holds Try.pinned (OpenSpec.ofChange lebLeastSpec)

/-- ITS FALSE NEIGHBOUR: 'it returns false'. Refute it at one input. -/
def lebLeastWrong : ChangeSpec := { name := "lebLeast", fn := fun _ => fun
  | [d1, d2, d3] => { results := [.lit (.bool false)], args := [d1, d2, d3] }
  | _ => none }
def LebLeastWrongFalsely : Prop := lebLeastRow.holds Try.pinned (OpenSpec.ofChange lebLeastWrong)

/- THE SECOND FORM. 'bulk': how many values and letters a reading holds, each counted each time it is reached (what is shared counts as often as it is met; a slice's spare places count too). A statement '..UptoSaid' is the law's where the arguments, and the package variables that the reading takes, are together of bulk at most 1048576: NARROWER than '..Said'. Prove '..Said' where nothing that the law and all that it calls make is longer than what came in: it says more and counts as full. Else prove '..UptoSaid'. A law counts once. -/
mutual
def uptoBulk {H : Type} : DataW H → Nat
  | .lit (.string bytes) => bytes.length + 1
  | .lit _ => 1
  | .nil => 1
  | .ptr d => uptoBulk d + 1
  | .slice elems spare => uptoBulkAll elems + uptoBulkAll spare + 1
  | .agg parts => uptoBulkAll parts + 1
  | .iface _ d => uptoBulk d + 1
  | .map entries => uptoBulkEntries entries + 1
  | .held _ => 1
def uptoBulkAll {H : Type} : List (DataW H) → Nat
  | [] => 0
  | d :: r => uptoBulk d + uptoBulkAll r
def uptoBulkEntries {H : Type} : List (Lit × DataW H) → Nat
  | [] => 0
  | x :: r => uptoBulkEntry x + uptoBulkEntries r
def uptoBulkEntry {H : Type} : Lit × DataW H → Nat
  | (.string bytes, d) => bytes.length + uptoBulk d + 1
  | (_, d) => uptoBulk d + 1
 end
def uptoSmall : (H : Type) → List (DataW H) → Bool := fun _ ds => decide (uptoBulkAll ds ≤ 1048576)
def OpenSpec.upto (s : _root_.Go.ChangeSpec) : _root_.Go.OpenSpec := { _root_.Go.OpenSpec.ofChange s with cond := some uptoSmall }

/-- 'jacquardlaw01.LebUnsigned', WHERE WHAT IT READS IS OF BULK AT MOST 1048576: true; the input reads as it did. -/
def lebUnsignedUptoRow : OpenClaim := { program := "ytbhihlahnllpgaa", sum := "7e86db1acdffa53ceec95554d8e3e87ce362d460b4d1eb11fc3d658bf07b8b31", func := "jacquard/jacquardlaw01.LebUnsigned", spec := "lebUnsigned", apart := false, narrowed := true }
def LebUnsignedUptoSaid : Prop := lebUnsignedUptoRow.holds Try.pinned (OpenSpec.upto lebUnsignedSpec)

/-- 'jacquardlaw01.LebSigned', WHERE WHAT IT READS IS OF BULK AT MOST 1048576: true; the input reads as it did. -/
def lebSignedUptoRow : OpenClaim := { program := "ytbhihlahnllpgaa", sum := "7e86db1acdffa53ceec95554d8e3e87ce362d460b4d1eb11fc3d658bf07b8b31", func := "jacquard/jacquardlaw01.LebSigned", spec := "lebSigned", apart := false, narrowed := true }
def LebSignedUptoSaid : Prop := lebSignedUptoRow.holds Try.pinned (OpenSpec.upto lebSignedSpec)

/-- 'jacquardlaw01.LebShort', WHERE WHAT IT READS IS OF BULK AT MOST 1048576: true; the input reads as it did. -/
def lebShortUptoRow : OpenClaim := { program := "ytbhihlahnllpgaa", sum := "7e86db1acdffa53ceec95554d8e3e87ce362d460b4d1eb11fc3d658bf07b8b31", func := "jacquard/jacquardlaw01.LebShort", spec := "lebShort", recurses := true, apart := false, narrowed := true }
def LebShortUptoSaid : Prop := lebShortUptoRow.holds Try.pinned (OpenSpec.upto lebShortSpec)

/-- 'jacquardlaw01.LebBack', WHERE WHAT IT READS IS OF BULK AT MOST 1048576: true; the input reads as it did. -/
def lebBackUptoRow : OpenClaim := { program := "ytbhihlahnllpgaa", sum := "7e86db1acdffa53ceec95554d8e3e87ce362d460b4d1eb11fc3d658bf07b8b31", func := "jacquard/jacquardlaw01.LebBack", spec := "lebBack", apart := false, narrowed := true }
def LebBackUptoSaid : Prop := lebBackUptoRow.holds Try.pinned (OpenSpec.upto lebBackSpec)

/-- 'jacquardlaw01.LebBackSigned', WHERE WHAT IT READS IS OF BULK AT MOST 1048576: true; the input reads as it did. -/
def lebBackSignedUptoRow : OpenClaim := { program := "ytbhihlahnllpgaa", sum := "7e86db1acdffa53ceec95554d8e3e87ce362d460b4d1eb11fc3d658bf07b8b31", func := "jacquard/jacquardlaw01.LebBackSigned", spec := "lebBackSigned", apart := false, narrowed := true }
def LebBackSignedUptoSaid : Prop := lebBackSignedUptoRow.holds Try.pinned (OpenSpec.upto lebBackSignedSpec)

/-- 'jacquardlaw01.LebLeast', WHERE WHAT IT READS IS OF BULK AT MOST 1048576: true; the input reads as it did. -/
def lebLeastUptoRow : OpenClaim := { program := "ytbhihlahnllpgaa", sum := "7e86db1acdffa53ceec95554d8e3e87ce362d460b4d1eb11fc3d658bf07b8b31", func := "jacquard/jacquardlaw01.LebLeast", spec := "lebLeast", apart := false, narrowed := true }
def LebLeastUptoSaid : Prop := lebLeastUptoRow.holds Try.pinned (OpenSpec.upto lebLeastSpec)

end Rows
end Go.Proofs.Ytbhihlahnllpgaa
