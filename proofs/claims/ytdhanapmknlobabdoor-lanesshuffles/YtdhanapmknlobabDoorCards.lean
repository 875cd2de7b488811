/-
  DERIVED. GIVEN WITH THE SEED: THE CARDS: each row of YtdhanapmknlobabDoorRows.lean that lists a variable, with what it lists TIED to the program's text (the seventh form; the later family's looks); each row that meets fmt, with fmt's text TOLD by the authors' own Lean function (tested against real Go, not proved from fmt's source: count such statements apart). THE CARD IS WHAT COUNTS. Prove the row's statement (the work); the ties are given (YtdhanapmknlobabDoorTie.lean); close each card by the builder's one call (the guide's Derived/Test/ToyasCard.lean, 'card_holds'). Laid BY PROGRAM, IN A SANDBOX (cutbox-door.mjs). By AI agents, Wed Nov 11 2026. No macro, syntax, notation, axiom, sorry.
-/
import Derived.Test.YtdhanapmknlobabDoorRows
import GoSem.ClaimSeven
namespace Go.Proofs.YtdhanapmknlobabDoor
namespace Rows

/-- THE TIED CARD OF 'jacquardlaw06.LanesSet'. -/
def lanesSetCard : Claim7 := { stood := { row := lanesSetRow, standIns := [], harness := (true, "df7fc32f0e73f93d78a0b4d3651608219c473b1008dbd2f60b2b858994099ba8"), looks := false }, kinds := [], alts := [], laidByText := true, laidKinds := [.data], laidTests := true, laidLooks := .later }
def LanesSetCardSaid : Prop := Claim7.holds Tryd.pinned (.plain (OpenSpec.ofChange lanesSetSpec)) lanesSetCard

/-- THE TIED CARD OF 'jacquardlaw06.LanesShuffles'. -/
def lanesShufflesCard : Claim7 := { stood := { row := lanesShufflesRow, standIns := [], harness := (true, "df7fc32f0e73f93d78a0b4d3651608219c473b1008dbd2f60b2b858994099ba8"), looks := false }, kinds := [], alts := [], laidByText := true, laidKinds := [.data], laidTests := true, laidLooks := .later }
def LanesShufflesCardSaid : Prop := Claim7.holds Tryd.pinned (.plain (OpenSpec.ofChange lanesShufflesSpec)) lanesShufflesCard

/-- THE TIED CARD OF 'jacquardlaw06.LanesSelects'. -/
def lanesSelectsCard : Claim7 := { stood := { row := lanesSelectsRow, standIns := [], harness := (true, "df7fc32f0e73f93d78a0b4d3651608219c473b1008dbd2f60b2b858994099ba8"), looks := false }, kinds := [], alts := [], laidByText := true, laidKinds := [.data], laidTests := true, laidLooks := .later }
def LanesSelectsCardSaid : Prop := Claim7.holds Tryd.pinned (.plain (OpenSpec.ofChange lanesSelectsSpec)) lanesSelectsCard

/-- THE TIED CARD OF 'jacquardlaw06.LanesFresh'. -/
def lanesFreshCard : Claim7 := { stood := { row := lanesFreshRow, standIns := [], harness := (true, "df7fc32f0e73f93d78a0b4d3651608219c473b1008dbd2f60b2b858994099ba8"), looks := false }, kinds := [], alts := [], laidByText := true, laidKinds := [.data], laidTests := true, laidLooks := .later }
def LanesFreshCardSaid : Prop := Claim7.holds Tryd.pinned (.plain (OpenSpec.ofChange lanesFreshSpec)) lanesFreshCard

/-- THE SECOND FORM's CARD OF 'jacquardlaw06.LanesSet'. -/
def lanesSetUptoCard : Claim7 := { stood := { row := lanesSetUptoRow, standIns := [], harness := (true, "df7fc32f0e73f93d78a0b4d3651608219c473b1008dbd2f60b2b858994099ba8"), looks := false }, kinds := [], alts := [], laidByText := true, laidKinds := [.data], laidTests := true, laidLooks := .later }
def LanesSetUptoCardSaid : Prop := Claim7.holds Tryd.pinned (.plain (OpenSpec.upto lanesSetSpec)) lanesSetUptoCard

/-- THE SECOND FORM's CARD OF 'jacquardlaw06.LanesShuffles'. -/
def lanesShufflesUptoCard : Claim7 := { stood := { row := lanesShufflesUptoRow, standIns := [], harness := (true, "df7fc32f0e73f93d78a0b4d3651608219c473b1008dbd2f60b2b858994099ba8"), looks := false }, kinds := [], alts := [], laidByText := true, laidKinds := [.data], laidTests := true, laidLooks := .later }
def LanesShufflesUptoCardSaid : Prop := Claim7.holds Tryd.pinned (.plain (OpenSpec.upto lanesShufflesSpec)) lanesShufflesUptoCard

/-- THE SECOND FORM's CARD OF 'jacquardlaw06.LanesSelects'. -/
def lanesSelectsUptoCard : Claim7 := { stood := { row := lanesSelectsUptoRow, standIns := [], harness := (true, "df7fc32f0e73f93d78a0b4d3651608219c473b1008dbd2f60b2b858994099ba8"), looks := false }, kinds := [], alts := [], laidByText := true, laidKinds := [.data], laidTests := true, laidLooks := .later }
def LanesSelectsUptoCardSaid : Prop := Claim7.holds Tryd.pinned (.plain (OpenSpec.upto lanesSelectsSpec)) lanesSelectsUptoCard

/-- THE SECOND FORM's CARD OF 'jacquardlaw06.LanesFresh'. -/
def lanesFreshUptoCard : Claim7 := { stood := { row := lanesFreshUptoRow, standIns := [], harness := (true, "df7fc32f0e73f93d78a0b4d3651608219c473b1008dbd2f60b2b858994099ba8"), looks := false }, kinds := [], alts := [], laidByText := true, laidKinds := [.data], laidTests := true, laidLooks := .later }
def LanesFreshUptoCardSaid : Prop := Claim7.holds Tryd.pinned (.plain (OpenSpec.upto lanesFreshSpec)) lanesFreshUptoCard
end Rows
end Go.Proofs.YtdhanapmknlobabDoor
