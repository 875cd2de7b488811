/-
  DERIVED. GIVEN WITH THE SEED: THE CARDS: each row of YtlpjkmobmpcfiaaDoorRows.lean that lists a variable, with what it lists TIED to the program's text (the seventh form; the later family's looks); each row that meets fmt, with fmt's text TOLD by the authors' own Lean function (tested against real Go, not proved from fmt's source: count such statements apart). THE CARD IS WHAT COUNTS. Prove the row's statement (the work); the ties are given (YtlpjkmobmpcfiaaDoorTie.lean); close each card by the builder's one call (the guide's Derived/Test/ToyasCard.lean, 'card_holds'). Laid BY PROGRAM, IN A SANDBOX (cutbox-door.mjs). By AI agents, Wed Nov 11 2026. No macro, syntax, notation, axiom, sorry.
-/
import Derived.Test.YtlpjkmobmpcfiaaDoorRows
import GoSem.ClaimSeven
namespace Go.Proofs.YtlpjkmobmpcfiaaDoor
namespace Rows

/-- THE TIED CARD OF 'jacquardlaw03.IntsTwo'. -/
def intsTwoCard : Claim7 := { stood := { row := intsTwoRow, standIns := [], harness := (true, "934007355e5b57e5834659bfb99d360393da17890b1b14866d25eddc4931abe3"), looks := false }, kinds := [], alts := [], laidByText := true, laidKinds := [.data, .data], laidTests := true, laidLooks := .later }
def IntsTwoCardSaid : Prop := Claim7.holds Tryd.pinned (.plain (OpenSpec.ofChange intsTwoSpec)) intsTwoCard

/-- THE TIED CARD OF 'jacquardlaw03.IntsOne'. -/
def intsOneCard : Claim7 := { stood := { row := intsOneRow, standIns := [], harness := (true, "934007355e5b57e5834659bfb99d360393da17890b1b14866d25eddc4931abe3"), looks := false }, kinds := [], alts := [], laidByText := true, laidKinds := [.data, .data], laidTests := true, laidLooks := .later }
def IntsOneCardSaid : Prop := Claim7.holds Tryd.pinned (.plain (OpenSpec.ofChange intsOneSpec)) intsOneCard

/-- THE TIED CARD OF 'jacquardlaw03.IntsThan'. -/
def intsThanCard : Claim7 := { stood := { row := intsThanRow, standIns := [], harness := (true, "934007355e5b57e5834659bfb99d360393da17890b1b14866d25eddc4931abe3"), looks := false }, kinds := [], alts := [], laidByText := true, laidKinds := [.data, .data], laidTests := true, laidLooks := .later }
def IntsThanCardSaid : Prop := Claim7.holds Tryd.pinned (.plain (OpenSpec.ofChange intsThanSpec)) intsThanCard

/-- THE TIED CARD OF 'jacquardlaw03.IntsWidths'. -/
def intsWidthsCard : Claim7 := { stood := { row := intsWidthsRow, standIns := [], harness := (true, "934007355e5b57e5834659bfb99d360393da17890b1b14866d25eddc4931abe3"), looks := false }, kinds := [], alts := [], laidByText := true, laidKinds := [.data, .data], laidTests := true, laidLooks := .later }
def IntsWidthsCardSaid : Prop := Claim7.holds Tryd.pinned (.plain (OpenSpec.ofChange intsWidthsSpec)) intsWidthsCard

/-- THE TIED CARD OF 'jacquardlaw03.IntsRing'. -/
def intsRingCard : Claim7 := { stood := { row := intsRingRow, standIns := [], harness := (true, "934007355e5b57e5834659bfb99d360393da17890b1b14866d25eddc4931abe3"), looks := false }, kinds := [], alts := [], laidByText := true, laidKinds := [.data, .data], laidTests := true, laidLooks := .later }
def IntsRingCardSaid : Prop := Claim7.holds Tryd.pinned (.plain (OpenSpec.ofChange intsRingSpec)) intsRingCard

/-- THE TIED CARD OF 'jacquardlaw03.IntsDivides'. -/
def intsDividesCard : Claim7 := { stood := { row := intsDividesRow, standIns := [], harness := (true, "934007355e5b57e5834659bfb99d360393da17890b1b14866d25eddc4931abe3"), looks := false }, kinds := [], alts := [], laidByText := true, laidKinds := [.data, .data], laidTests := true, laidLooks := .later }
def IntsDividesCardSaid : Prop := Claim7.holds Tryd.pinned (.plain (OpenSpec.ofChange intsDividesSpec)) intsDividesCard

/-- THE SECOND FORM's CARD OF 'jacquardlaw03.IntsTwo'. -/
def intsTwoUptoCard : Claim7 := { stood := { row := intsTwoUptoRow, standIns := [], harness := (true, "934007355e5b57e5834659bfb99d360393da17890b1b14866d25eddc4931abe3"), looks := false }, kinds := [], alts := [], laidByText := true, laidKinds := [.data, .data], laidTests := true, laidLooks := .later }
def IntsTwoUptoCardSaid : Prop := Claim7.holds Tryd.pinned (.plain (OpenSpec.upto intsTwoSpec)) intsTwoUptoCard

/-- THE SECOND FORM's CARD OF 'jacquardlaw03.IntsOne'. -/
def intsOneUptoCard : Claim7 := { stood := { row := intsOneUptoRow, standIns := [], harness := (true, "934007355e5b57e5834659bfb99d360393da17890b1b14866d25eddc4931abe3"), looks := false }, kinds := [], alts := [], laidByText := true, laidKinds := [.data, .data], laidTests := true, laidLooks := .later }
def IntsOneUptoCardSaid : Prop := Claim7.holds Tryd.pinned (.plain (OpenSpec.upto intsOneSpec)) intsOneUptoCard

/-- THE SECOND FORM's CARD OF 'jacquardlaw03.IntsThan'. -/
def intsThanUptoCard : Claim7 := { stood := { row := intsThanUptoRow, standIns := [], harness := (true, "934007355e5b57e5834659bfb99d360393da17890b1b14866d25eddc4931abe3"), looks := false }, kinds := [], alts := [], laidByText := true, laidKinds := [.data, .data], laidTests := true, laidLooks := .later }
def IntsThanUptoCardSaid : Prop := Claim7.holds Tryd.pinned (.plain (OpenSpec.upto intsThanSpec)) intsThanUptoCard

/-- THE SECOND FORM's CARD OF 'jacquardlaw03.IntsWidths'. -/
def intsWidthsUptoCard : Claim7 := { stood := { row := intsWidthsUptoRow, standIns := [], harness := (true, "934007355e5b57e5834659bfb99d360393da17890b1b14866d25eddc4931abe3"), looks := false }, kinds := [], alts := [], laidByText := true, laidKinds := [.data, .data], laidTests := true, laidLooks := .later }
def IntsWidthsUptoCardSaid : Prop := Claim7.holds Tryd.pinned (.plain (OpenSpec.upto intsWidthsSpec)) intsWidthsUptoCard

/-- THE SECOND FORM's CARD OF 'jacquardlaw03.IntsRing'. -/
def intsRingUptoCard : Claim7 := { stood := { row := intsRingUptoRow, standIns := [], harness := (true, "934007355e5b57e5834659bfb99d360393da17890b1b14866d25eddc4931abe3"), looks := false }, kinds := [], alts := [], laidByText := true, laidKinds := [.data, .data], laidTests := true, laidLooks := .later }
def IntsRingUptoCardSaid : Prop := Claim7.holds Tryd.pinned (.plain (OpenSpec.upto intsRingSpec)) intsRingUptoCard

/-- THE SECOND FORM's CARD OF 'jacquardlaw03.IntsDivides'. -/
def intsDividesUptoCard : Claim7 := { stood := { row := intsDividesUptoRow, standIns := [], harness := (true, "934007355e5b57e5834659bfb99d360393da17890b1b14866d25eddc4931abe3"), looks := false }, kinds := [], alts := [], laidByText := true, laidKinds := [.data, .data], laidTests := true, laidLooks := .later }
def IntsDividesUptoCardSaid : Prop := Claim7.holds Tryd.pinned (.plain (OpenSpec.upto intsDividesSpec)) intsDividesUptoCard
end Rows
end Go.Proofs.YtlpjkmobmpcfiaaDoor
