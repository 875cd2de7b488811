/-
  DERIVED. GIVEN WITH THE SEED: THE CARDS: each row of YthggbimnjneeaabDoorRows.lean that lists a variable, with what it lists TIED to the program's text (the seventh form; the later family's looks); each row that meets fmt, with fmt's text TOLD by the authors' own Lean function (tested against real Go, not proved from fmt's source: count such statements apart). THE CARD IS WHAT COUNTS. Prove the row's statement (the work); the ties are given (YthggbimnjneeaabDoorTie.lean); close each card by the builder's one call (the guide's Derived/Test/ToyasCard.lean, 'card_holds'). Laid BY PROGRAM, IN A SANDBOX (cutbox-door.mjs). By AI agents, Wed Nov 11 2026. No macro, syntax, notation, axiom, sorry.
-/
import Derived.Test.YthggbimnjneeaabDoorRows
import GoSem.ClaimSeven
namespace Go.Proofs.YthggbimnjneeaabDoor
namespace Rows

/-- THE TIED CARD OF 'jacquardlaw10.OpsPages'. -/
def opsPagesCard : Claim7 := { stood := { row := opsPagesRow, standIns := [], harness := (true, "4fbc34f108c66f4d81a4b562dcaf648f98b6fe98320cdca2ef50fd042082719b"), looks := false }, kinds := [], alts := [], laidByText := true, laidKinds := [.data, .listed, .data, .pinned], laidTests := true, laidLooks := .later }
def OpsPagesCardSaid : Prop := Claim7.holds Tryd.pinned (.plain (OpenSpec.ofChange opsPagesSpec)) opsPagesCard

/-- THE TIED CARD OF 'jacquardlaw10.OpsFresh'. -/
def opsFreshCard : Claim7 := { stood := { row := opsFreshRow, standIns := [], harness := (true, "4fbc34f108c66f4d81a4b562dcaf648f98b6fe98320cdca2ef50fd042082719b"), looks := false }, kinds := [], alts := [], laidByText := true, laidKinds := [.data, .listed, .data, .pinned], laidTests := true, laidLooks := .later }
def OpsFreshCardSaid : Prop := Claim7.holds Tryd.pinned (.plain (OpenSpec.ofChange opsFreshSpec)) opsFreshCard

/-- THE SECOND FORM's CARD OF 'jacquardlaw10.OpsPages'. -/
def opsPagesUptoCard : Claim7 := { stood := { row := opsPagesUptoRow, standIns := [], harness := (true, "4fbc34f108c66f4d81a4b562dcaf648f98b6fe98320cdca2ef50fd042082719b"), looks := false }, kinds := [], alts := [], laidByText := true, laidKinds := [.data, .listed, .data, .pinned], laidTests := true, laidLooks := .later }
def OpsPagesUptoCardSaid : Prop := Claim7.holds Tryd.pinned (.plain (OpenSpec.upto opsPagesSpec)) opsPagesUptoCard

/-- THE SECOND FORM's CARD OF 'jacquardlaw10.OpsFresh'. -/
def opsFreshUptoCard : Claim7 := { stood := { row := opsFreshUptoRow, standIns := [], harness := (true, "4fbc34f108c66f4d81a4b562dcaf648f98b6fe98320cdca2ef50fd042082719b"), looks := false }, kinds := [], alts := [], laidByText := true, laidKinds := [.data, .listed, .data, .pinned], laidTests := true, laidLooks := .later }
def OpsFreshUptoCardSaid : Prop := Claim7.holds Tryd.pinned (.plain (OpenSpec.upto opsFreshSpec)) opsFreshUptoCard
end Rows
end Go.Proofs.YthggbimnjneeaabDoor
