/-
  DERIVED. GIVEN WITH THE SEED: THE CARDS: each row of YtfahogbiekmdfabDoorRows.lean that lists a variable, with what it lists TIED to the program's text (the seventh form; the later family's looks); each row that meets fmt, with fmt's text TOLD by the authors' own Lean function (tested against real Go, not proved from fmt's source: count such statements apart). THE CARD IS WHAT COUNTS. Prove the row's statement (the work); the ties are given (YtfahogbiekmdfabDoorTie.lean); close each card by the builder's one call (the guide's Derived/Test/ToyasCard.lean, 'card_holds'). Laid BY PROGRAM, IN A SANDBOX (cutbox-door.mjs). By AI agents, Wed Nov 11 2026. No macro, syntax, notation, axiom, sorry.
-/
import Derived.Test.YtfahogbiekmdfabDoorRows
import GoSem.ClaimSeven
namespace Go.Proofs.YtfahogbiekmdfabDoor
namespace Rows

/-- THE TIED CARD OF 'jacquardlaw05.ConvsRises'. -/
def convsRisesCard : Claim7 := { stood := { row := convsRisesRow, standIns := [], harness := (true, "1e76a21dfa92202a2d3de37338f8017959a35e2baa2261ed191647bb2c702af0"), looks := false }, kinds := [], alts := [], laidByText := true, laidKinds := [.data], laidTests := true, laidLooks := .later }
def ConvsRisesCardSaid : Prop := Claim7.holds Tryd.pinned (.plain (OpenSpec.ofChange convsRisesSpec)) convsRisesCard

/-- THE TIED CARD OF 'jacquardlaw05.ConvsSigns'. -/
def convsSignsCard : Claim7 := { stood := { row := convsSignsRow, standIns := [], harness := (true, "1e76a21dfa92202a2d3de37338f8017959a35e2baa2261ed191647bb2c702af0"), looks := false }, kinds := [], alts := [], laidByText := true, laidKinds := [.data, .data], laidTests := true, laidLooks := .later }
def ConvsSignsCardSaid : Prop := Claim7.holds Tryd.pinned (.plain (OpenSpec.ofChange convsSignsSpec)) convsSignsCard

/-- THE SECOND FORM's CARD OF 'jacquardlaw05.ConvsRises'. -/
def convsRisesUptoCard : Claim7 := { stood := { row := convsRisesUptoRow, standIns := [], harness := (true, "1e76a21dfa92202a2d3de37338f8017959a35e2baa2261ed191647bb2c702af0"), looks := false }, kinds := [], alts := [], laidByText := true, laidKinds := [.data], laidTests := true, laidLooks := .later }
def ConvsRisesUptoCardSaid : Prop := Claim7.holds Tryd.pinned (.plain (OpenSpec.upto convsRisesSpec)) convsRisesUptoCard

/-- THE SECOND FORM's CARD OF 'jacquardlaw05.ConvsSigns'. -/
def convsSignsUptoCard : Claim7 := { stood := { row := convsSignsUptoRow, standIns := [], harness := (true, "1e76a21dfa92202a2d3de37338f8017959a35e2baa2261ed191647bb2c702af0"), looks := false }, kinds := [], alts := [], laidByText := true, laidKinds := [.data, .data], laidTests := true, laidLooks := .later }
def ConvsSignsUptoCardSaid : Prop := Claim7.holds Tryd.pinned (.plain (OpenSpec.upto convsSignsSpec)) convsSignsUptoCard
end Rows
end Go.Proofs.YtfahogbiekmdfabDoor
