/-
  DERIVED. GIVEN WITH THE SEED: THE CARDS: each row of YtlpjkmobmpcfiabDoorRows.lean that lists a variable, with what it lists TIED to the program's text (the seventh form; the later family's looks); each row that meets fmt, with fmt's text TOLD by the authors' own Lean function (tested against real Go, not proved from fmt's source: count such statements apart). THE CARD IS WHAT COUNTS. Prove the row's statement (the work); the ties are given (YtlpjkmobmpcfiabDoorTie.lean); close each card by the builder's one call (the guide's Derived/Test/ToyasCard.lean, 'card_holds'). Laid BY PROGRAM, IN A SANDBOX (cutbox-door.mjs). By AI agents, Wed Nov 11 2026. No macro, syntax, notation, axiom, sorry.
-/
import Derived.Test.YtlpjkmobmpcfiabDoorRows
import GoSem.ClaimSeven
namespace Go.Proofs.YtlpjkmobmpcfiabDoor
namespace Rows

/-- THE TIED CARD OF 'jacquardlaw03.IntsTurns'. -/
def intsTurnsCard : Claim7 := { stood := { row := intsTurnsRow, standIns := [], harness := (true, "4cd06f925f18bea763e48290763db3a1e041402e2d96d5f61413d33ff59bd6f0"), looks := false }, kinds := [], alts := [], laidByText := true, laidKinds := [.data, .data], laidTests := true, laidLooks := .later }
def IntsTurnsCardSaid : Prop := Claim7.holds Tryd.pinned (.plain (OpenSpec.ofChange intsTurnsSpec)) intsTurnsCard

/-- THE TIED CARD OF 'jacquardlaw03.IntsBits'. -/
def intsBitsCard : Claim7 := { stood := { row := intsBitsRow, standIns := [], harness := (true, "4cd06f925f18bea763e48290763db3a1e041402e2d96d5f61413d33ff59bd6f0"), looks := false }, kinds := [], alts := [], laidByText := true, laidKinds := [.data, .data], laidTests := true, laidLooks := .later }
def IntsBitsCardSaid : Prop := Claim7.holds Tryd.pinned (.plain (OpenSpec.ofChange intsBitsSpec)) intsBitsCard

/-- THE TIED CARD OF 'jacquardlaw03.IntsHeld'. -/
def intsHeldCard : Claim7 := { stood := { row := intsHeldRow, standIns := [], harness := (true, "4cd06f925f18bea763e48290763db3a1e041402e2d96d5f61413d33ff59bd6f0"), looks := false }, kinds := [], alts := [], laidByText := true, laidKinds := [.data, .data], laidTests := true, laidLooks := .later }
def IntsHeldCardSaid : Prop := Claim7.holds Tryd.pinned (.plain (OpenSpec.ofChange intsHeldSpec)) intsHeldCard

/-- THE TIED CARD OF 'jacquardlaw03.IntsBack'. -/
def intsBackCard : Claim7 := { stood := { row := intsBackRow, standIns := [], harness := (true, "4cd06f925f18bea763e48290763db3a1e041402e2d96d5f61413d33ff59bd6f0"), looks := false }, kinds := [], alts := [], laidByText := true, laidKinds := [.data, .data], laidTests := true, laidLooks := .later }
def IntsBackCardSaid : Prop := Claim7.holds Tryd.pinned (.plain (OpenSpec.ofChange intsBackSpec)) intsBackCard

/-- THE SECOND FORM's CARD OF 'jacquardlaw03.IntsTurns'. -/
def intsTurnsUptoCard : Claim7 := { stood := { row := intsTurnsUptoRow, standIns := [], harness := (true, "4cd06f925f18bea763e48290763db3a1e041402e2d96d5f61413d33ff59bd6f0"), looks := false }, kinds := [], alts := [], laidByText := true, laidKinds := [.data, .data], laidTests := true, laidLooks := .later }
def IntsTurnsUptoCardSaid : Prop := Claim7.holds Tryd.pinned (.plain (OpenSpec.upto intsTurnsSpec)) intsTurnsUptoCard

/-- THE SECOND FORM's CARD OF 'jacquardlaw03.IntsBits'. -/
def intsBitsUptoCard : Claim7 := { stood := { row := intsBitsUptoRow, standIns := [], harness := (true, "4cd06f925f18bea763e48290763db3a1e041402e2d96d5f61413d33ff59bd6f0"), looks := false }, kinds := [], alts := [], laidByText := true, laidKinds := [.data, .data], laidTests := true, laidLooks := .later }
def IntsBitsUptoCardSaid : Prop := Claim7.holds Tryd.pinned (.plain (OpenSpec.upto intsBitsSpec)) intsBitsUptoCard

/-- THE SECOND FORM's CARD OF 'jacquardlaw03.IntsHeld'. -/
def intsHeldUptoCard : Claim7 := { stood := { row := intsHeldUptoRow, standIns := [], harness := (true, "4cd06f925f18bea763e48290763db3a1e041402e2d96d5f61413d33ff59bd6f0"), looks := false }, kinds := [], alts := [], laidByText := true, laidKinds := [.data, .data], laidTests := true, laidLooks := .later }
def IntsHeldUptoCardSaid : Prop := Claim7.holds Tryd.pinned (.plain (OpenSpec.upto intsHeldSpec)) intsHeldUptoCard

/-- THE SECOND FORM's CARD OF 'jacquardlaw03.IntsBack'. -/
def intsBackUptoCard : Claim7 := { stood := { row := intsBackUptoRow, standIns := [], harness := (true, "4cd06f925f18bea763e48290763db3a1e041402e2d96d5f61413d33ff59bd6f0"), looks := false }, kinds := [], alts := [], laidByText := true, laidKinds := [.data, .data], laidTests := true, laidLooks := .later }
def IntsBackUptoCardSaid : Prop := Claim7.holds Tryd.pinned (.plain (OpenSpec.upto intsBackSpec)) intsBackUptoCard
end Rows
end Go.Proofs.YtlpjkmobmpcfiabDoor
