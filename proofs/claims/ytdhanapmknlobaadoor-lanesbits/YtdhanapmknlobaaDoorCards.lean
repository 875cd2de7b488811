/-
  DERIVED. GIVEN WITH THE SEED: THE CARDS: each row of YtdhanapmknlobaaDoorRows.lean that lists a variable, with what it lists TIED to the program's text (the seventh form; the later family's looks); each row that meets fmt, with fmt's text TOLD by the authors' own Lean function (tested against real Go, not proved from fmt's source: count such statements apart). THE CARD IS WHAT COUNTS. Prove the row's statement (the work); the ties are given (YtdhanapmknlobaaDoorTie.lean); close each card by the builder's one call (the guide's Derived/Test/ToyasCard.lean, 'card_holds'). Laid BY PROGRAM, IN A SANDBOX (cutbox-door.mjs). By AI agents, Wed Nov 11 2026. No macro, syntax, notation, axiom, sorry.
-/
import Derived.Test.YtdhanapmknlobaaDoorRows
import GoSem.ClaimSeven
namespace Go.Proofs.YtdhanapmknlobaaDoor
namespace Rows

/-- THE TIED CARD OF 'jacquardlaw06.LanesGets'. -/
def lanesGetsCard : Claim7 := { stood := { row := lanesGetsRow, standIns := [], harness := (true, "8b00b6b7e498b8093963d8024e4ef003f25d4ea680c7e6d6161c9dc55f9176e3"), looks := false }, kinds := [], alts := [], laidByText := true, laidKinds := [.data], laidTests := true, laidLooks := .later }
def LanesGetsCardSaid : Prop := Claim7.holds Tryd.pinned (.plain (OpenSpec.ofChange lanesGetsSpec)) lanesGetsCard

/-- THE TIED CARD OF 'jacquardlaw06.LanesLists'. -/
def lanesListsCard : Claim7 := { stood := { row := lanesListsRow, standIns := [], harness := (true, "8b00b6b7e498b8093963d8024e4ef003f25d4ea680c7e6d6161c9dc55f9176e3"), looks := false }, kinds := [], alts := [], laidByText := true, laidKinds := [.data], laidTests := true, laidLooks := .later }
def LanesListsCardSaid : Prop := Claim7.holds Tryd.pinned (.plain (OpenSpec.ofChange lanesListsSpec)) lanesListsCard

/-- THE TIED CARD OF 'jacquardlaw06.LanesBytes'. -/
def lanesBytesCard : Claim7 := { stood := { row := lanesBytesRow, standIns := [], harness := (true, "8b00b6b7e498b8093963d8024e4ef003f25d4ea680c7e6d6161c9dc55f9176e3"), looks := false }, kinds := [], alts := [], laidByText := true, laidKinds := [.data], laidTests := true, laidLooks := .later }
def LanesBytesCardSaid : Prop := Claim7.holds Tryd.pinned (.plain (OpenSpec.ofChange lanesBytesSpec)) lanesBytesCard

/-- THE TIED CARD OF 'jacquardlaw06.LanesMoves'. -/
def lanesMovesCard : Claim7 := { stood := { row := lanesMovesRow, standIns := [], harness := (true, "8b00b6b7e498b8093963d8024e4ef003f25d4ea680c7e6d6161c9dc55f9176e3"), looks := false }, kinds := [], alts := [], laidByText := true, laidKinds := [.data], laidTests := true, laidLooks := .later }
def LanesMovesCardSaid : Prop := Claim7.holds Tryd.pinned (.plain (OpenSpec.ofChange lanesMovesSpec)) lanesMovesCard

/-- THE TIED CARD OF 'jacquardlaw06.LanesBits'. -/
def lanesBitsCard : Claim7 := { stood := { row := lanesBitsRow, standIns := [], harness := (true, "8b00b6b7e498b8093963d8024e4ef003f25d4ea680c7e6d6161c9dc55f9176e3"), looks := false }, kinds := [], alts := [], laidByText := true, laidKinds := [.data], laidTests := true, laidLooks := .later }
def LanesBitsCardSaid : Prop := Claim7.holds Tryd.pinned (.plain (OpenSpec.ofChange lanesBitsSpec)) lanesBitsCard

/-- THE TIED CARD OF 'jacquardlaw06.LanesBack'. -/
def lanesBackCard : Claim7 := { stood := { row := lanesBackRow, standIns := [], harness := (true, "8b00b6b7e498b8093963d8024e4ef003f25d4ea680c7e6d6161c9dc55f9176e3"), looks := false }, kinds := [], alts := [], laidByText := true, laidKinds := [.data], laidTests := true, laidLooks := .later }
def LanesBackCardSaid : Prop := Claim7.holds Tryd.pinned (.plain (OpenSpec.ofChange lanesBackSpec)) lanesBackCard

/-- THE SECOND FORM's CARD OF 'jacquardlaw06.LanesGets'. -/
def lanesGetsUptoCard : Claim7 := { stood := { row := lanesGetsUptoRow, standIns := [], harness := (true, "8b00b6b7e498b8093963d8024e4ef003f25d4ea680c7e6d6161c9dc55f9176e3"), looks := false }, kinds := [], alts := [], laidByText := true, laidKinds := [.data], laidTests := true, laidLooks := .later }
def LanesGetsUptoCardSaid : Prop := Claim7.holds Tryd.pinned (.plain (OpenSpec.upto lanesGetsSpec)) lanesGetsUptoCard

/-- THE SECOND FORM's CARD OF 'jacquardlaw06.LanesLists'. -/
def lanesListsUptoCard : Claim7 := { stood := { row := lanesListsUptoRow, standIns := [], harness := (true, "8b00b6b7e498b8093963d8024e4ef003f25d4ea680c7e6d6161c9dc55f9176e3"), looks := false }, kinds := [], alts := [], laidByText := true, laidKinds := [.data], laidTests := true, laidLooks := .later }
def LanesListsUptoCardSaid : Prop := Claim7.holds Tryd.pinned (.plain (OpenSpec.upto lanesListsSpec)) lanesListsUptoCard

/-- THE SECOND FORM's CARD OF 'jacquardlaw06.LanesBytes'. -/
def lanesBytesUptoCard : Claim7 := { stood := { row := lanesBytesUptoRow, standIns := [], harness := (true, "8b00b6b7e498b8093963d8024e4ef003f25d4ea680c7e6d6161c9dc55f9176e3"), looks := false }, kinds := [], alts := [], laidByText := true, laidKinds := [.data], laidTests := true, laidLooks := .later }
def LanesBytesUptoCardSaid : Prop := Claim7.holds Tryd.pinned (.plain (OpenSpec.upto lanesBytesSpec)) lanesBytesUptoCard

/-- THE SECOND FORM's CARD OF 'jacquardlaw06.LanesMoves'. -/
def lanesMovesUptoCard : Claim7 := { stood := { row := lanesMovesUptoRow, standIns := [], harness := (true, "8b00b6b7e498b8093963d8024e4ef003f25d4ea680c7e6d6161c9dc55f9176e3"), looks := false }, kinds := [], alts := [], laidByText := true, laidKinds := [.data], laidTests := true, laidLooks := .later }
def LanesMovesUptoCardSaid : Prop := Claim7.holds Tryd.pinned (.plain (OpenSpec.upto lanesMovesSpec)) lanesMovesUptoCard

/-- THE SECOND FORM's CARD OF 'jacquardlaw06.LanesBits'. -/
def lanesBitsUptoCard : Claim7 := { stood := { row := lanesBitsUptoRow, standIns := [], harness := (true, "8b00b6b7e498b8093963d8024e4ef003f25d4ea680c7e6d6161c9dc55f9176e3"), looks := false }, kinds := [], alts := [], laidByText := true, laidKinds := [.data], laidTests := true, laidLooks := .later }
def LanesBitsUptoCardSaid : Prop := Claim7.holds Tryd.pinned (.plain (OpenSpec.upto lanesBitsSpec)) lanesBitsUptoCard

/-- THE SECOND FORM's CARD OF 'jacquardlaw06.LanesBack'. -/
def lanesBackUptoCard : Claim7 := { stood := { row := lanesBackUptoRow, standIns := [], harness := (true, "8b00b6b7e498b8093963d8024e4ef003f25d4ea680c7e6d6161c9dc55f9176e3"), looks := false }, kinds := [], alts := [], laidByText := true, laidKinds := [.data], laidTests := true, laidLooks := .later }
def LanesBackUptoCardSaid : Prop := Claim7.holds Tryd.pinned (.plain (OpenSpec.upto lanesBackSpec)) lanesBackUptoCard
end Rows
end Go.Proofs.YtdhanapmknlobaaDoor
