/-
  NARROWER THAN 'FOR EVERY INPUT', by the rows' own cells (each row's printed sentence says how): VfloatsTwo: laid · VfloatsOne: laid · VfloatsThan: laid · VfloatsConvs: laid · VfloatsWidths: laid · VfloatsWhole: laid.
  DERIVED. THE GIVEN ROWS OF THIS SEAT. 6 by the template 'for every input the law returns true; each argument reads behind the call as it read before'; 0 by the template 'total and deterministic' (their statements: YtpeckiaimellmaaDoorTotals.lean).
  GIVEN WITH THE SEED: the statements are not yours to turn. If you find one false, say at which input.
  Laid BY PROGRAM, IN A SANDBOX (cutbox-rows.mjs): the forced cells as the released guide's own fill.sh prints them over the translation 02ce2f8ea0c88c68… (all of the seat's roots in one cut). By AI agents, Wed Nov 11 2026. No macro, syntax, notation, axiom, sorry.
-/
import Derived.Test.YtpeckiaimellmaaDoorChecked
import GoSem.Claim
import GoSem.ClaimJoined
import GoSem.ClaimMapViews
import Derived.JoinedTies
import Derived.KernelRfl
namespace Go.Proofs.YtpeckiaimellmaaDoor
/- THE CELL 'sum', in the pinned program and in every row, IS THE sha256 OF THE DUMP (.gsa) THAT YtpeckiaimellmaaDoorProg.lean LOADS. Nothing in Lean hashes anything: it is a label: what it is worth is what the hold of that sum in a sandbox is worth. -/
noncomputable def Tryd.pinned : Pinned := { name := "ytpeckiaimellmaadoor", sum := "02ce2f8ea0c88c68eca8b728a9ea41d54111285d682938e1a66e512968e2615e", checked := Tryd.checked }
namespace Rows
def none {H : Type} : Left H := { results := [], args := [] }

/- WHAT THE LISTED PACKAGE-LEVEL VARIABLES READ AS WHEN THE CALL BEGINS. Each datum BY PROGRAM (the guide's laid-datum.mjs) off the statement by which the dump's own 'gosem.cut.vars' lays the variable. In a bare row this is a premise. The card (YtpeckiaimellmaaDoorCards.lean) ties it to the program's text. -/
def laid_jacquard_ints_widths {H : Type} : DataW H := .agg [.lit (.int .i64 8), .lit (.int .i64 16), .lit (.int .i64 32), .lit (.int .i64 64)]

/-- 'jacquardlaw08.VfloatsTwo': WHATEVER THE INPUT: true; the input reads as it did. -/
def vfloatsTwoSpec : ChangeSpec := { name := "vfloatsTwo", fn := fun _ => fun
  | [d1, d2, d3, d4] => { results := [.lit (.bool true)], args := [d1, d2, d3, d4] }
  | _ => none }
def vfloatsTwoRow : OpenClaim := { program := "ytpeckiaimellmaadoor", sum := "02ce2f8ea0c88c68eca8b728a9ea41d54111285d682938e1a66e512968e2615e", func := "jacquard/jacquardlaw08.VfloatsTwo", spec := "vfloatsTwo", inPlace := ["math.Float32frombits", "math.Float32bits", "math.Float64frombits", "math.Float64bits"], unfollowed := true, recurses := true, named := ["jacquard/ints.widths"], apart := false, laid := [("jacquard/ints.widths", laid_jacquard_ints_widths)] }
def VfloatsTwoSaid : Prop := vfloatsTwoRow.holds Tryd.pinned (OpenSpec.ofChange vfloatsTwoSpec)

/-- ITS FALSE NEIGHBOUR: 'it returns false'. Refute it at one input. -/
def vfloatsTwoWrong : ChangeSpec := { name := "vfloatsTwo", fn := fun _ => fun
  | [d1, d2, d3, d4] => { results := [.lit (.bool false)], args := [d1, d2, d3, d4] }
  | _ => none }
def VfloatsTwoWrongFalsely : Prop := vfloatsTwoRow.holds Tryd.pinned (OpenSpec.ofChange vfloatsTwoWrong)

/-- 'jacquardlaw08.VfloatsOne': WHATEVER THE INPUT: true; the input reads as it did. -/
def vfloatsOneSpec : ChangeSpec := { name := "vfloatsOne", fn := fun _ => fun
  | [d1, d2, d3] => { results := [.lit (.bool true)], args := [d1, d2, d3] }
  | _ => none }
def vfloatsOneRow : OpenClaim := { program := "ytpeckiaimellmaadoor", sum := "02ce2f8ea0c88c68eca8b728a9ea41d54111285d682938e1a66e512968e2615e", func := "jacquard/jacquardlaw08.VfloatsOne", spec := "vfloatsOne", inPlace := ["math.Float32frombits", "math.Float64frombits", "math.sqrt", "math.Float32bits", "math.Float64bits", "math.archCeil", "math.archFloor", "math.archTrunc", "math.RoundToEven"], unfollowed := true, recurses := true, named := ["jacquard/ints.widths"], apart := false, laid := [("jacquard/ints.widths", laid_jacquard_ints_widths)] }
def VfloatsOneSaid : Prop := vfloatsOneRow.holds Tryd.pinned (OpenSpec.ofChange vfloatsOneSpec)

/-- ITS FALSE NEIGHBOUR: 'it returns false'. Refute it at one input. -/
def vfloatsOneWrong : ChangeSpec := { name := "vfloatsOne", fn := fun _ => fun
  | [d1, d2, d3] => { results := [.lit (.bool false)], args := [d1, d2, d3] }
  | _ => none }
def VfloatsOneWrongFalsely : Prop := vfloatsOneRow.holds Tryd.pinned (OpenSpec.ofChange vfloatsOneWrong)

/-- 'jacquardlaw08.VfloatsThan': WHATEVER THE INPUT: true; the input reads as it did. -/
def vfloatsThanSpec : ChangeSpec := { name := "vfloatsThan", fn := fun _ => fun
  | [d1, d2, d3, d4] => { results := [.lit (.bool true)], args := [d1, d2, d3, d4] }
  | _ => none }
def vfloatsThanRow : OpenClaim := { program := "ytpeckiaimellmaadoor", sum := "02ce2f8ea0c88c68eca8b728a9ea41d54111285d682938e1a66e512968e2615e", func := "jacquard/jacquardlaw08.VfloatsThan", spec := "vfloatsThan", inPlace := ["math.Float32frombits", "math.Float64frombits", "math.Float32bits", "math.Float64bits"], unfollowed := true, recurses := true, named := ["jacquard/ints.widths"], apart := false, laid := [("jacquard/ints.widths", laid_jacquard_ints_widths)] }
def VfloatsThanSaid : Prop := vfloatsThanRow.holds Tryd.pinned (OpenSpec.ofChange vfloatsThanSpec)

/-- ITS FALSE NEIGHBOUR: 'it returns false'. Refute it at one input. -/
def vfloatsThanWrong : ChangeSpec := { name := "vfloatsThan", fn := fun _ => fun
  | [d1, d2, d3, d4] => { results := [.lit (.bool false)], args := [d1, d2, d3, d4] }
  | _ => none }
def VfloatsThanWrongFalsely : Prop := vfloatsThanRow.holds Tryd.pinned (OpenSpec.ofChange vfloatsThanWrong)

/-- 'jacquardlaw08.VfloatsConvs': WHATEVER THE INPUT: true; the input reads as it did. -/
def vfloatsConvsSpec : ChangeSpec := { name := "vfloatsConvs", fn := fun _ => fun
  | [d1, d2, d3] => { results := [.lit (.bool true)], args := [d1, d2, d3] }
  | _ => none }
def vfloatsConvsRow : OpenClaim := { program := "ytpeckiaimellmaadoor", sum := "02ce2f8ea0c88c68eca8b728a9ea41d54111285d682938e1a66e512968e2615e", func := "jacquard/jacquardlaw08.VfloatsConvs", spec := "vfloatsConvs", inPlace := ["math.Float32frombits", "math.Float64frombits", "math.archTrunc", "math.Float64bits", "math.Float32bits"], unfollowed := true, recurses := true, named := ["jacquard/ints.widths"], apart := false, laid := [("jacquard/ints.widths", laid_jacquard_ints_widths)] }
def VfloatsConvsSaid : Prop := vfloatsConvsRow.holds Tryd.pinned (OpenSpec.ofChange vfloatsConvsSpec)

/-- ITS FALSE NEIGHBOUR: 'it returns false'. Refute it at one input. -/
def vfloatsConvsWrong : ChangeSpec := { name := "vfloatsConvs", fn := fun _ => fun
  | [d1, d2, d3] => { results := [.lit (.bool false)], args := [d1, d2, d3] }
  | _ => none }
def VfloatsConvsWrongFalsely : Prop := vfloatsConvsRow.holds Tryd.pinned (OpenSpec.ofChange vfloatsConvsWrong)

/-- 'jacquardlaw08.VfloatsWidths': WHATEVER THE INPUT: true; the input reads as it did. -/
def vfloatsWidthsSpec : ChangeSpec := { name := "vfloatsWidths", fn := fun _ => fun
  | [d] => { results := [.lit (.bool true)], args := [d] }
  | _ => none }
def vfloatsWidthsRow : OpenClaim := { program := "ytpeckiaimellmaadoor", sum := "02ce2f8ea0c88c68eca8b728a9ea41d54111285d682938e1a66e512968e2615e", func := "jacquard/jacquardlaw08.VfloatsWidths", spec := "vfloatsWidths", inPlace := ["math.Float32frombits", "math.Float64frombits", "math.Float64bits", "math.Float32bits"], unfollowed := true, recurses := true, named := ["jacquard/ints.widths"], apart := false, laid := [("jacquard/ints.widths", laid_jacquard_ints_widths)] }
def VfloatsWidthsSaid : Prop := vfloatsWidthsRow.holds Tryd.pinned (OpenSpec.ofChange vfloatsWidthsSpec)

/-- ITS FALSE NEIGHBOUR: 'it returns false'. Refute it at one input. -/
def vfloatsWidthsWrong : ChangeSpec := { name := "vfloatsWidths", fn := fun _ => fun
  | [d] => { results := [.lit (.bool false)], args := [d] }
  | _ => none }
def VfloatsWidthsWrongFalsely : Prop := vfloatsWidthsRow.holds Tryd.pinned (OpenSpec.ofChange vfloatsWidthsWrong)

/-- 'jacquardlaw08.VfloatsWhole': WHATEVER THE INPUT: true; the input reads as it did. -/
def vfloatsWholeSpec : ChangeSpec := { name := "vfloatsWhole", fn := fun _ => fun
  | [d1, d2] => { results := [.lit (.bool true)], args := [d1, d2] }
  | _ => none }
def vfloatsWholeRow : OpenClaim := { program := "ytpeckiaimellmaadoor", sum := "02ce2f8ea0c88c68eca8b728a9ea41d54111285d682938e1a66e512968e2615e", func := "jacquard/jacquardlaw08.VfloatsWhole", spec := "vfloatsWhole", inPlace := ["math.Float32bits", "math.Float64bits", "math.Float32frombits", "math.Float64frombits", "math.archTrunc"], unfollowed := true, recurses := true, named := ["jacquard/ints.widths"], apart := false, laid := [("jacquard/ints.widths", laid_jacquard_ints_widths)] }
def VfloatsWholeSaid : Prop := vfloatsWholeRow.holds Tryd.pinned (OpenSpec.ofChange vfloatsWholeSpec)

/-- ITS FALSE NEIGHBOUR: 'it returns false'. Refute it at one input. -/
def vfloatsWholeWrong : ChangeSpec := { name := "vfloatsWhole", fn := fun _ => fun
  | [d1, d2] => { results := [.lit (.bool false)], args := [d1, d2] }
  | _ => none }
def VfloatsWholeWrongFalsely : Prop := vfloatsWholeRow.holds Tryd.pinned (OpenSpec.ofChange vfloatsWholeWrong)

/- THE SECOND FORM. 'bulk': how many values and letters a reading holds, each counted each time it is reached (what is shared counts as often as it is met; a slice's spare places count too). A statement '..UptoSaid' is the law's where the arguments, and the package variables that the reading takes, are together of bulk at most 1048576: NARROWER than '..Said'. Prove '..Said' where nothing that the law and all that it calls make is longer than what came in: it says more and counts as full. Else prove '..UptoSaid'. A law counts once. -/
mutual
def uptoBulk {H : Type} : DataW H → Nat
  | .lit (.string bytes) => bytes.length + 1
  | .lit _ => 1
  | .nil => 1
  | .ptr d => uptoBulk d + 1
  | .slice elems spare => uptoBulkAll elems + uptoBulkAll spare + 1
  | .agg parts => uptoBulkAll parts + 1
  | .iface _ d => uptoBulk d + 1
  | .map entries => uptoBulkEntries entries + 1
  | .held _ => 1
def uptoBulkAll {H : Type} : List (DataW H) → Nat
  | [] => 0
  | d :: r => uptoBulk d + uptoBulkAll r
def uptoBulkEntries {H : Type} : List (Lit × DataW H) → Nat
  | [] => 0
  | x :: r => uptoBulkEntry x + uptoBulkEntries r
def uptoBulkEntry {H : Type} : Lit × DataW H → Nat
  | (.string bytes, d) => bytes.length + uptoBulk d + 1
  | (_, d) => uptoBulk d + 1
 end
def uptoSmall : (H : Type) → List (DataW H) → Bool := fun _ ds => decide (uptoBulkAll ds ≤ 1048576)
def OpenSpec.upto (s : _root_.Go.ChangeSpec) : _root_.Go.OpenSpec := { _root_.Go.OpenSpec.ofChange s with cond := some uptoSmall }

/-- 'jacquardlaw08.VfloatsTwo', WHERE WHAT IT READS IS OF BULK AT MOST 1048576: true; the input reads as it did. -/
def vfloatsTwoUptoRow : OpenClaim := { program := "ytpeckiaimellmaadoor", sum := "02ce2f8ea0c88c68eca8b728a9ea41d54111285d682938e1a66e512968e2615e", func := "jacquard/jacquardlaw08.VfloatsTwo", spec := "vfloatsTwo", inPlace := ["math.Float32frombits", "math.Float32bits", "math.Float64frombits", "math.Float64bits"], unfollowed := true, recurses := true, named := ["jacquard/ints.widths"], apart := false, laid := [("jacquard/ints.widths", laid_jacquard_ints_widths)], narrowed := true }
def VfloatsTwoUptoSaid : Prop := vfloatsTwoUptoRow.holds Tryd.pinned (OpenSpec.upto vfloatsTwoSpec)

/-- 'jacquardlaw08.VfloatsOne', WHERE WHAT IT READS IS OF BULK AT MOST 1048576: true; the input reads as it did. -/
def vfloatsOneUptoRow : OpenClaim := { program := "ytpeckiaimellmaadoor", sum := "02ce2f8ea0c88c68eca8b728a9ea41d54111285d682938e1a66e512968e2615e", func := "jacquard/jacquardlaw08.VfloatsOne", spec := "vfloatsOne", inPlace := ["math.Float32frombits", "math.Float64frombits", "math.sqrt", "math.Float32bits", "math.Float64bits", "math.archCeil", "math.archFloor", "math.archTrunc", "math.RoundToEven"], unfollowed := true, recurses := true, named := ["jacquard/ints.widths"], apart := false, laid := [("jacquard/ints.widths", laid_jacquard_ints_widths)], narrowed := true }
def VfloatsOneUptoSaid : Prop := vfloatsOneUptoRow.holds Tryd.pinned (OpenSpec.upto vfloatsOneSpec)

/-- 'jacquardlaw08.VfloatsThan', WHERE WHAT IT READS IS OF BULK AT MOST 1048576: true; the input reads as it did. -/
def vfloatsThanUptoRow : OpenClaim := { program := "ytpeckiaimellmaadoor", sum := "02ce2f8ea0c88c68eca8b728a9ea41d54111285d682938e1a66e512968e2615e", func := "jacquard/jacquardlaw08.VfloatsThan", spec := "vfloatsThan", inPlace := ["math.Float32frombits", "math.Float64frombits", "math.Float32bits", "math.Float64bits"], unfollowed := true, recurses := true, named := ["jacquard/ints.widths"], apart := false, laid := [("jacquard/ints.widths", laid_jacquard_ints_widths)], narrowed := true }
def VfloatsThanUptoSaid : Prop := vfloatsThanUptoRow.holds Tryd.pinned (OpenSpec.upto vfloatsThanSpec)

/-- 'jacquardlaw08.VfloatsConvs', WHERE WHAT IT READS IS OF BULK AT MOST 1048576: true; the input reads as it did. -/
def vfloatsConvsUptoRow : OpenClaim := { program := "ytpeckiaimellmaadoor", sum := "02ce2f8ea0c88c68eca8b728a9ea41d54111285d682938e1a66e512968e2615e", func := "jacquard/jacquardlaw08.VfloatsConvs", spec := "vfloatsConvs", inPlace := ["math.Float32frombits", "math.Float64frombits", "math.archTrunc", "math.Float64bits", "math.Float32bits"], unfollowed := true, recurses := true, named := ["jacquard/ints.widths"], apart := false, laid := [("jacquard/ints.widths", laid_jacquard_ints_widths)], narrowed := true }
def VfloatsConvsUptoSaid : Prop := vfloatsConvsUptoRow.holds Tryd.pinned (OpenSpec.upto vfloatsConvsSpec)

/-- 'jacquardlaw08.VfloatsWidths', WHERE WHAT IT READS IS OF BULK AT MOST 1048576: true; the input reads as it did. -/
def vfloatsWidthsUptoRow : OpenClaim := { program := "ytpeckiaimellmaadoor", sum := "02ce2f8ea0c88c68eca8b728a9ea41d54111285d682938e1a66e512968e2615e", func := "jacquard/jacquardlaw08.VfloatsWidths", spec := "vfloatsWidths", inPlace := ["math.Float32frombits", "math.Float64frombits", "math.Float64bits", "math.Float32bits"], unfollowed := true, recurses := true, named := ["jacquard/ints.widths"], apart := false, laid := [("jacquard/ints.widths", laid_jacquard_ints_widths)], narrowed := true }
def VfloatsWidthsUptoSaid : Prop := vfloatsWidthsUptoRow.holds Tryd.pinned (OpenSpec.upto vfloatsWidthsSpec)

/-- 'jacquardlaw08.VfloatsWhole', WHERE WHAT IT READS IS OF BULK AT MOST 1048576: true; the input reads as it did. -/
def vfloatsWholeUptoRow : OpenClaim := { program := "ytpeckiaimellmaadoor", sum := "02ce2f8ea0c88c68eca8b728a9ea41d54111285d682938e1a66e512968e2615e", func := "jacquard/jacquardlaw08.VfloatsWhole", spec := "vfloatsWhole", inPlace := ["math.Float32bits", "math.Float64bits", "math.Float32frombits", "math.Float64frombits", "math.archTrunc"], unfollowed := true, recurses := true, named := ["jacquard/ints.widths"], apart := false, laid := [("jacquard/ints.widths", laid_jacquard_ints_widths)], narrowed := true }
def VfloatsWholeUptoSaid : Prop := vfloatsWholeUptoRow.holds Tryd.pinned (OpenSpec.upto vfloatsWholeSpec)

end Rows
end Go.Proofs.YtpeckiaimellmaaDoor
