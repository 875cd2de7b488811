/-
  No cell of these rows narrows 'for every input' (looked for: loops, veiled, ifaces, maps, wideKeys, modest, calm, conditions, laid).
  DERIVED. THE GIVEN ROWS OF THIS SEAT. 6 by the template 'for every input the law returns true; each argument reads behind the call as it read before'; 0 by the template 'total and deterministic' (their statements: YtgmakjmlkepfbaaTotals.lean).
  GIVEN WITH THE SEED: the statements are not yours to turn. If you find one false, say at which input.
  Laid BY PROGRAM, IN A SANDBOX (cutbox-rows.mjs): the forced cells as the released guide's own fill.sh prints them over the translation d4981b323e2f425c… (all of the seat's roots in one cut). By AI agents, Wed Nov 11 2026. No macro, syntax, notation, axiom, sorry.
-/
import Derived.Test.YtgmakjmlkepfbaaChecked
import GoSem.Claim
import GoSem.ClaimJoined
import GoSem.ClaimMapViews
import Derived.JoinedTies
import Derived.KernelRfl
namespace Go.Proofs.Ytgmakjmlkepfbaa
/- THE CELL 'sum', in the pinned program and in every row, IS THE sha256 OF THE DUMP (.gsa) THAT YtgmakjmlkepfbaaProg.lean LOADS. Nothing in Lean hashes anything: it is a label: what it is worth is what the hold of that sum in a sandbox is worth. -/
noncomputable def Try.pinned : Pinned := { name := "ytgmakjmlkepfbaa", sum := "d4981b323e2f425cdf115b8e8dbfcd337c93a56bb5536b5490a9b2f3380c75b4", checked := Try.checked }
namespace Rows
def none {H : Type} : Left H := { results := [], args := [] }

/-- 'jacquardlaw04.FloatsTwo': WHATEVER THE INPUT: true; the input reads as it did. -/
def floatsTwoSpec : ChangeSpec := { name := "floatsTwo", fn := fun _ => fun
  | [d1, d2, d3, d4] => { results := [.lit (.bool true)], args := [d1, d2, d3, d4] }
  | _ => none }
def floatsTwoRow : OpenClaim := { program := "ytgmakjmlkepfbaa", sum := "d4981b323e2f425cdf115b8e8dbfcd337c93a56bb5536b5490a9b2f3380c75b4", func := "jacquard/jacquardlaw04.FloatsTwo", spec := "floatsTwo", inPlace := ["math.Float32frombits", "math.Float32bits", "math.Float64frombits", "math.Float64bits"], unfollowed := true, recurses := true, apart := false }
def FloatsTwoSaid : Prop := floatsTwoRow.holds Try.pinned (OpenSpec.ofChange floatsTwoSpec)

/-- ITS FALSE NEIGHBOUR: 'it returns false'. Refute it at one input. -/
def floatsTwoWrong : ChangeSpec := { name := "floatsTwo", fn := fun _ => fun
  | [d1, d2, d3, d4] => { results := [.lit (.bool false)], args := [d1, d2, d3, d4] }
  | _ => none }
def FloatsTwoWrongFalsely : Prop := floatsTwoRow.holds Try.pinned (OpenSpec.ofChange floatsTwoWrong)

/-- 'jacquardlaw04.FloatsOne': WHATEVER THE INPUT: true; the input reads as it did. -/
def floatsOneSpec : ChangeSpec := { name := "floatsOne", fn := fun _ => fun
  | [d1, d2, d3] => { results := [.lit (.bool true)], args := [d1, d2, d3] }
  | _ => none }
def floatsOneRow : OpenClaim := { program := "ytgmakjmlkepfbaa", sum := "d4981b323e2f425cdf115b8e8dbfcd337c93a56bb5536b5490a9b2f3380c75b4", func := "jacquard/jacquardlaw04.FloatsOne", spec := "floatsOne", inPlace := ["math.Float32frombits", "math.Float64frombits", "math.sqrt", "math.Float32bits", "math.Float64bits", "math.archCeil", "math.archFloor", "math.archTrunc", "math.RoundToEven"], unfollowed := true, recurses := true, apart := false }
def FloatsOneSaid : Prop := floatsOneRow.holds Try.pinned (OpenSpec.ofChange floatsOneSpec)

/-- ITS FALSE NEIGHBOUR: 'it returns false'. Refute it at one input. -/
def floatsOneWrong : ChangeSpec := { name := "floatsOne", fn := fun _ => fun
  | [d1, d2, d3] => { results := [.lit (.bool false)], args := [d1, d2, d3] }
  | _ => none }
def FloatsOneWrongFalsely : Prop := floatsOneRow.holds Try.pinned (OpenSpec.ofChange floatsOneWrong)

/-- 'jacquardlaw04.FloatsThan': WHATEVER THE INPUT: true; the input reads as it did. -/
def floatsThanSpec : ChangeSpec := { name := "floatsThan", fn := fun _ => fun
  | [d1, d2, d3, d4] => { results := [.lit (.bool true)], args := [d1, d2, d3, d4] }
  | _ => none }
def floatsThanRow : OpenClaim := { program := "ytgmakjmlkepfbaa", sum := "d4981b323e2f425cdf115b8e8dbfcd337c93a56bb5536b5490a9b2f3380c75b4", func := "jacquard/jacquardlaw04.FloatsThan", spec := "floatsThan", inPlace := ["math.Float32frombits", "math.Float64frombits", "math.Float32bits", "math.Float64bits"], unfollowed := true, recurses := true, apart := false }
def FloatsThanSaid : Prop := floatsThanRow.holds Try.pinned (OpenSpec.ofChange floatsThanSpec)

/-- ITS FALSE NEIGHBOUR: 'it returns false'. Refute it at one input. -/
def floatsThanWrong : ChangeSpec := { name := "floatsThan", fn := fun _ => fun
  | [d1, d2, d3, d4] => { results := [.lit (.bool false)], args := [d1, d2, d3, d4] }
  | _ => none }
def FloatsThanWrongFalsely : Prop := floatsThanRow.holds Try.pinned (OpenSpec.ofChange floatsThanWrong)

/-- 'jacquardlaw04.FloatsNone': WHATEVER THE INPUT: true; the input reads as it did. -/
def floatsNoneSpec : ChangeSpec := { name := "floatsNone", fn := fun _ => fun
  | [d1, d2, d3, d4] => { results := [.lit (.bool true)], args := [d1, d2, d3, d4] }
  | _ => none }
def floatsNoneRow : OpenClaim := { program := "ytgmakjmlkepfbaa", sum := "d4981b323e2f425cdf115b8e8dbfcd337c93a56bb5536b5490a9b2f3380c75b4", func := "jacquard/jacquardlaw04.FloatsNone", spec := "floatsNone", inPlace := ["math.Float32frombits", "math.Float32bits", "math.Float64frombits", "math.Float64bits", "math.sqrt", "math.archCeil", "math.archFloor", "math.archTrunc", "math.RoundToEven"], unfollowed := true, recurses := true, apart := false }
def FloatsNoneSaid : Prop := floatsNoneRow.holds Try.pinned (OpenSpec.ofChange floatsNoneSpec)

/-- ITS FALSE NEIGHBOUR: 'it returns false'. Refute it at one input. -/
def floatsNoneWrong : ChangeSpec := { name := "floatsNone", fn := fun _ => fun
  | [d1, d2, d3, d4] => { results := [.lit (.bool false)], args := [d1, d2, d3, d4] }
  | _ => none }
def FloatsNoneWrongFalsely : Prop := floatsNoneRow.holds Try.pinned (OpenSpec.ofChange floatsNoneWrong)

/-- 'jacquardlaw04.FloatsOrder': WHATEVER THE INPUT: true; the input reads as it did. -/
def floatsOrderSpec : ChangeSpec := { name := "floatsOrder", fn := fun _ => fun
  | [d1, d2, d3] => { results := [.lit (.bool true)], args := [d1, d2, d3] }
  | _ => none }
def floatsOrderRow : OpenClaim := { program := "ytgmakjmlkepfbaa", sum := "d4981b323e2f425cdf115b8e8dbfcd337c93a56bb5536b5490a9b2f3380c75b4", func := "jacquard/jacquardlaw04.FloatsOrder", spec := "floatsOrder", inPlace := ["math.Float32frombits", "math.Float32bits", "math.Float64frombits", "math.Float64bits", "math.sqrt", "math.archCeil", "math.archFloor", "math.archTrunc", "math.RoundToEven"], unfollowed := true, recurses := true, apart := false }
def FloatsOrderSaid : Prop := floatsOrderRow.holds Try.pinned (OpenSpec.ofChange floatsOrderSpec)

/-- ITS FALSE NEIGHBOUR: 'it returns false'. Refute it at one input. -/
def floatsOrderWrong : ChangeSpec := { name := "floatsOrder", fn := fun _ => fun
  | [d1, d2, d3] => { results := [.lit (.bool false)], args := [d1, d2, d3] }
  | _ => none }
def FloatsOrderWrongFalsely : Prop := floatsOrderRow.holds Try.pinned (OpenSpec.ofChange floatsOrderWrong)

/-- 'jacquardlaw04.FloatsSigns': WHATEVER THE INPUT: true; the input reads as it did. -/
def floatsSignsSpec : ChangeSpec := { name := "floatsSigns", fn := fun _ => fun
  | [d1, d2, d3] => { results := [.lit (.bool true)], args := [d1, d2, d3] }
  | _ => none }
def floatsSignsRow : OpenClaim := { program := "ytgmakjmlkepfbaa", sum := "d4981b323e2f425cdf115b8e8dbfcd337c93a56bb5536b5490a9b2f3380c75b4", func := "jacquard/jacquardlaw04.FloatsSigns", spec := "floatsSigns", inPlace := ["math.Float32frombits", "math.Float64frombits", "math.sqrt", "math.Float32bits", "math.Float64bits", "math.archCeil", "math.archFloor", "math.archTrunc", "math.RoundToEven"], unfollowed := true, recurses := true, apart := false }
def FloatsSignsSaid : Prop := floatsSignsRow.holds Try.pinned (OpenSpec.ofChange floatsSignsSpec)

/-- ITS FALSE NEIGHBOUR: 'it returns false'. Refute it at one input. -/
def floatsSignsWrong : ChangeSpec := { name := "floatsSigns", fn := fun _ => fun
  | [d1, d2, d3] => { results := [.lit (.bool false)], args := [d1, d2, d3] }
  | _ => none }
def FloatsSignsWrongFalsely : Prop := floatsSignsRow.holds Try.pinned (OpenSpec.ofChange floatsSignsWrong)

/- THE SECOND FORM. 'bulk': how many values and letters a reading holds, each counted each time it is reached (what is shared counts as often as it is met; a slice's spare places count too). A statement '..UptoSaid' is the law's where the arguments, and the package variables that the reading takes, are together of bulk at most 1048576: NARROWER than '..Said'. Prove '..Said' where nothing that the law and all that it calls make is longer than what came in: it says more and counts as full. Else prove '..UptoSaid'. A law counts once. -/
mutual
def uptoBulk {H : Type} : DataW H → Nat
  | .lit (.string bytes) => bytes.length + 1
  | .lit _ => 1
  | .nil => 1
  | .ptr d => uptoBulk d + 1
  | .slice elems spare => uptoBulkAll elems + uptoBulkAll spare + 1
  | .agg parts => uptoBulkAll parts + 1
  | .iface _ d => uptoBulk d + 1
  | .map entries => uptoBulkEntries entries + 1
  | .held _ => 1
def uptoBulkAll {H : Type} : List (DataW H) → Nat
  | [] => 0
  | d :: r => uptoBulk d + uptoBulkAll r
def uptoBulkEntries {H : Type} : List (Lit × DataW H) → Nat
  | [] => 0
  | x :: r => uptoBulkEntry x + uptoBulkEntries r
def uptoBulkEntry {H : Type} : Lit × DataW H → Nat
  | (.string bytes, d) => bytes.length + uptoBulk d + 1
  | (_, d) => uptoBulk d + 1
 end
def uptoSmall : (H : Type) → List (DataW H) → Bool := fun _ ds => decide (uptoBulkAll ds ≤ 1048576)
def OpenSpec.upto (s : _root_.Go.ChangeSpec) : _root_.Go.OpenSpec := { _root_.Go.OpenSpec.ofChange s with cond := some uptoSmall }

/-- 'jacquardlaw04.FloatsTwo', WHERE WHAT IT READS IS OF BULK AT MOST 1048576: true; the input reads as it did. -/
def floatsTwoUptoRow : OpenClaim := { program := "ytgmakjmlkepfbaa", sum := "d4981b323e2f425cdf115b8e8dbfcd337c93a56bb5536b5490a9b2f3380c75b4", func := "jacquard/jacquardlaw04.FloatsTwo", spec := "floatsTwo", inPlace := ["math.Float32frombits", "math.Float32bits", "math.Float64frombits", "math.Float64bits"], unfollowed := true, recurses := true, apart := false, narrowed := true }
def FloatsTwoUptoSaid : Prop := floatsTwoUptoRow.holds Try.pinned (OpenSpec.upto floatsTwoSpec)

/-- 'jacquardlaw04.FloatsOne', WHERE WHAT IT READS IS OF BULK AT MOST 1048576: true; the input reads as it did. -/
def floatsOneUptoRow : OpenClaim := { program := "ytgmakjmlkepfbaa", sum := "d4981b323e2f425cdf115b8e8dbfcd337c93a56bb5536b5490a9b2f3380c75b4", func := "jacquard/jacquardlaw04.FloatsOne", spec := "floatsOne", inPlace := ["math.Float32frombits", "math.Float64frombits", "math.sqrt", "math.Float32bits", "math.Float64bits", "math.archCeil", "math.archFloor", "math.archTrunc", "math.RoundToEven"], unfollowed := true, recurses := true, apart := false, narrowed := true }
def FloatsOneUptoSaid : Prop := floatsOneUptoRow.holds Try.pinned (OpenSpec.upto floatsOneSpec)

/-- 'jacquardlaw04.FloatsThan', WHERE WHAT IT READS IS OF BULK AT MOST 1048576: true; the input reads as it did. -/
def floatsThanUptoRow : OpenClaim := { program := "ytgmakjmlkepfbaa", sum := "d4981b323e2f425cdf115b8e8dbfcd337c93a56bb5536b5490a9b2f3380c75b4", func := "jacquard/jacquardlaw04.FloatsThan", spec := "floatsThan", inPlace := ["math.Float32frombits", "math.Float64frombits", "math.Float32bits", "math.Float64bits"], unfollowed := true, recurses := true, apart := false, narrowed := true }
def FloatsThanUptoSaid : Prop := floatsThanUptoRow.holds Try.pinned (OpenSpec.upto floatsThanSpec)

/-- 'jacquardlaw04.FloatsNone', WHERE WHAT IT READS IS OF BULK AT MOST 1048576: true; the input reads as it did. -/
def floatsNoneUptoRow : OpenClaim := { program := "ytgmakjmlkepfbaa", sum := "d4981b323e2f425cdf115b8e8dbfcd337c93a56bb5536b5490a9b2f3380c75b4", func := "jacquard/jacquardlaw04.FloatsNone", spec := "floatsNone", inPlace := ["math.Float32frombits", "math.Float32bits", "math.Float64frombits", "math.Float64bits", "math.sqrt", "math.archCeil", "math.archFloor", "math.archTrunc", "math.RoundToEven"], unfollowed := true, recurses := true, apart := false, narrowed := true }
def FloatsNoneUptoSaid : Prop := floatsNoneUptoRow.holds Try.pinned (OpenSpec.upto floatsNoneSpec)

/-- 'jacquardlaw04.FloatsOrder', WHERE WHAT IT READS IS OF BULK AT MOST 1048576: true; the input reads as it did. -/
def floatsOrderUptoRow : OpenClaim := { program := "ytgmakjmlkepfbaa", sum := "d4981b323e2f425cdf115b8e8dbfcd337c93a56bb5536b5490a9b2f3380c75b4", func := "jacquard/jacquardlaw04.FloatsOrder", spec := "floatsOrder", inPlace := ["math.Float32frombits", "math.Float32bits", "math.Float64frombits", "math.Float64bits", "math.sqrt", "math.archCeil", "math.archFloor", "math.archTrunc", "math.RoundToEven"], unfollowed := true, recurses := true, apart := false, narrowed := true }
def FloatsOrderUptoSaid : Prop := floatsOrderUptoRow.holds Try.pinned (OpenSpec.upto floatsOrderSpec)

/-- 'jacquardlaw04.FloatsSigns', WHERE WHAT IT READS IS OF BULK AT MOST 1048576: true; the input reads as it did. -/
def floatsSignsUptoRow : OpenClaim := { program := "ytgmakjmlkepfbaa", sum := "d4981b323e2f425cdf115b8e8dbfcd337c93a56bb5536b5490a9b2f3380c75b4", func := "jacquard/jacquardlaw04.FloatsSigns", spec := "floatsSigns", inPlace := ["math.Float32frombits", "math.Float64frombits", "math.sqrt", "math.Float32bits", "math.Float64bits", "math.archCeil", "math.archFloor", "math.archTrunc", "math.RoundToEven"], unfollowed := true, recurses := true, apart := false, narrowed := true }
def FloatsSignsUptoSaid : Prop := floatsSignsUptoRow.holds Try.pinned (OpenSpec.upto floatsSignsSpec)

end Rows
end Go.Proofs.Ytgmakjmlkepfbaa
