/-
  DERIVED. GIVEN WITH THE SEED: THE CARDS: each row of YtoihfmammmkloabDoorRows.lean that lists a variable, with what it lists TIED to the program's text (the seventh form; the later family's looks); each row that meets fmt, with fmt's text TOLD by the authors' own Lean function (tested against real Go, not proved from fmt's source: count such statements apart). THE CARD IS WHAT COUNTS. Prove the row's statement (the work); the ties are given (YtoihfmammmkloabDoorTie.lean); close each card by the builder's one call (the guide's Derived/Test/ToyasCard.lean, 'card_holds'). Laid BY PROGRAM, IN A SANDBOX (cutbox-door.mjs). By AI agents, Wed Nov 11 2026. No macro, syntax, notation, axiom, sorry.
-/
import Derived.Test.YtoihfmammmkloabDoorRows
import GoSem.ClaimSeven
namespace Go.Proofs.YtoihfmammmkloabDoor
namespace Rows

/-- THE TIED CARD OF 'jacquardlaw07.VintsBack'. -/
def vintsBackCard : Claim7 := { stood := { row := vintsBackRow, standIns := [], harness := (true, "19c2c5b99624c97749b3a21ec0740ac56f4169829632e71ef04a6ce16f2b69b7"), looks := false }, kinds := [], alts := [], laidByText := true, laidKinds := [.data], laidTests := true, laidLooks := .later }
def VintsBackCardSaid : Prop := Claim7.holds Tryd.pinned (.plain (OpenSpec.ofChange vintsBackSpec)) vintsBackCard

/-- THE TIED CARD OF 'jacquardlaw07.VintsMasks'. -/
def vintsMasksCard : Claim7 := { stood := { row := vintsMasksRow, standIns := [], harness := (true, "19c2c5b99624c97749b3a21ec0740ac56f4169829632e71ef04a6ce16f2b69b7"), looks := false }, kinds := [], alts := [], laidByText := true, laidKinds := [.data, .data], laidTests := true, laidLooks := .later }
def VintsMasksCardSaid : Prop := Claim7.holds Tryd.pinned (.plain (OpenSpec.ofChange vintsMasksSpec)) vintsMasksCard

/-- THE TIED CARD OF 'jacquardlaw07.VintsDot'. -/
def vintsDotCard : Claim7 := { stood := { row := vintsDotRow, standIns := [], harness := (true, "19c2c5b99624c97749b3a21ec0740ac56f4169829632e71ef04a6ce16f2b69b7"), looks := false }, kinds := [], alts := [], laidByText := true, laidKinds := [.data], laidTests := true, laidLooks := .later }
def VintsDotCardSaid : Prop := Claim7.holds Tryd.pinned (.plain (OpenSpec.ofChange vintsDotSpec)) vintsDotCard

/-- THE TIED CARD OF 'jacquardlaw07.VintsSums'. -/
def vintsSumsCard : Claim7 := { stood := { row := vintsSumsRow, standIns := [], harness := (true, "19c2c5b99624c97749b3a21ec0740ac56f4169829632e71ef04a6ce16f2b69b7"), looks := false }, kinds := [], alts := [], laidByText := true, laidKinds := [.data], laidTests := true, laidLooks := .later }
def VintsSumsCardSaid : Prop := Claim7.holds Tryd.pinned (.plain (OpenSpec.ofChange vintsSumsSpec)) vintsSumsCard

/-- THE SECOND FORM's CARD OF 'jacquardlaw07.VintsBack'. -/
def vintsBackUptoCard : Claim7 := { stood := { row := vintsBackUptoRow, standIns := [], harness := (true, "19c2c5b99624c97749b3a21ec0740ac56f4169829632e71ef04a6ce16f2b69b7"), looks := false }, kinds := [], alts := [], laidByText := true, laidKinds := [.data], laidTests := true, laidLooks := .later }
def VintsBackUptoCardSaid : Prop := Claim7.holds Tryd.pinned (.plain (OpenSpec.upto vintsBackSpec)) vintsBackUptoCard

/-- THE SECOND FORM's CARD OF 'jacquardlaw07.VintsMasks'. -/
def vintsMasksUptoCard : Claim7 := { stood := { row := vintsMasksUptoRow, standIns := [], harness := (true, "19c2c5b99624c97749b3a21ec0740ac56f4169829632e71ef04a6ce16f2b69b7"), looks := false }, kinds := [], alts := [], laidByText := true, laidKinds := [.data, .data], laidTests := true, laidLooks := .later }
def VintsMasksUptoCardSaid : Prop := Claim7.holds Tryd.pinned (.plain (OpenSpec.upto vintsMasksSpec)) vintsMasksUptoCard

/-- THE SECOND FORM's CARD OF 'jacquardlaw07.VintsDot'. -/
def vintsDotUptoCard : Claim7 := { stood := { row := vintsDotUptoRow, standIns := [], harness := (true, "19c2c5b99624c97749b3a21ec0740ac56f4169829632e71ef04a6ce16f2b69b7"), looks := false }, kinds := [], alts := [], laidByText := true, laidKinds := [.data], laidTests := true, laidLooks := .later }
def VintsDotUptoCardSaid : Prop := Claim7.holds Tryd.pinned (.plain (OpenSpec.upto vintsDotSpec)) vintsDotUptoCard

/-- THE SECOND FORM's CARD OF 'jacquardlaw07.VintsSums'. -/
def vintsSumsUptoCard : Claim7 := { stood := { row := vintsSumsUptoRow, standIns := [], harness := (true, "19c2c5b99624c97749b3a21ec0740ac56f4169829632e71ef04a6ce16f2b69b7"), looks := false }, kinds := [], alts := [], laidByText := true, laidKinds := [.data], laidTests := true, laidLooks := .later }
def VintsSumsUptoCardSaid : Prop := Claim7.holds Tryd.pinned (.plain (OpenSpec.upto vintsSumsSpec)) vintsSumsUptoCard
end Rows
end Go.Proofs.YtoihfmammmkloabDoor
