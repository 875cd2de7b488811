/-
  DERIVED. GIVEN WITH THE SEED: THE CARDS: each row of YthillphedjjhjabDoorRows.lean that lists a variable, with what it lists TIED to the program's text (the seventh form; the later family's looks); each row that meets fmt, with fmt's text TOLD by the authors' own Lean function (tested against real Go, not proved from fmt's source: count such statements apart). THE CARD IS WHAT COUNTS. Prove the row's statement (the work); the ties are given (YthillphedjjhjabDoorTie.lean); close each card by the builder's one call (the guide's Derived/Test/ToyasCard.lean, 'card_holds'). Laid BY PROGRAM, IN A SANDBOX (cutbox-door.mjs). By AI agents, Wed Nov 11 2026. No macro, syntax, notation, axiom, sorry.
-/
import Derived.Test.YthillphedjjhjabDoorRows
import GoSem.ClaimSeven
namespace Go.Proofs.YthillphedjjhjabDoor
namespace Rows

/-- THE TIED CARD OF 'jacquardlaw02.NameOne'. -/
def nameOneCard : Claim7 := { stood := { row := nameOneRow, standIns := [], harness := (true, "12c96f8c895db240b1100dbe5ac007ea43ba005ede7275ba929a5f23a467228b"), looks := false }, kinds := [], alts := [], laidByText := true, laidKinds := [.data, .pinned], laidTests := true, laidLooks := .later }
def NameOneCardSaid : Prop := Claim7.holds Tryd.pinned (.plain (OpenSpec.ofChange nameOneSpec)) nameOneCard

/-- THE TIED CARD OF 'jacquardlaw02.NameFresh'. -/
def nameFreshCard : Claim7 := { stood := { row := nameFreshRow, standIns := [], harness := (true, "12c96f8c895db240b1100dbe5ac007ea43ba005ede7275ba929a5f23a467228b"), looks := false }, kinds := [], alts := [], laidByText := true, laidKinds := [.data, .pinned], laidTests := true, laidLooks := .later }
def NameFreshCardSaid : Prop := Claim7.holds Tryd.pinned (.plain (OpenSpec.ofChange nameFreshSpec)) nameFreshCard

/-- THE SECOND FORM's CARD OF 'jacquardlaw02.NameOne'. -/
def nameOneUptoCard : Claim7 := { stood := { row := nameOneUptoRow, standIns := [], harness := (true, "12c96f8c895db240b1100dbe5ac007ea43ba005ede7275ba929a5f23a467228b"), looks := false }, kinds := [], alts := [], laidByText := true, laidKinds := [.data, .pinned], laidTests := true, laidLooks := .later }
def NameOneUptoCardSaid : Prop := Claim7.holds Tryd.pinned (.plain (OpenSpec.upto nameOneSpec)) nameOneUptoCard

/-- THE SECOND FORM's CARD OF 'jacquardlaw02.NameFresh'. -/
def nameFreshUptoCard : Claim7 := { stood := { row := nameFreshUptoRow, standIns := [], harness := (true, "12c96f8c895db240b1100dbe5ac007ea43ba005ede7275ba929a5f23a467228b"), looks := false }, kinds := [], alts := [], laidByText := true, laidKinds := [.data, .pinned], laidTests := true, laidLooks := .later }
def NameFreshUptoCardSaid : Prop := Claim7.holds Tryd.pinned (.plain (OpenSpec.upto nameFreshSpec)) nameFreshUptoCard
end Rows
end Go.Proofs.YthillphedjjhjabDoor
