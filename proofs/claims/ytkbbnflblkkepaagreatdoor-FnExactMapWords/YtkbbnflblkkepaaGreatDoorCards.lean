/-
  DERIVED. GIVEN WITH THE SEED: THE CARDS: each row of YtkbbnflblkkepaaGreatDoorRows.lean that lists a variable, with what it lists TIED to the program's text (the seventh form; the later family's looks); each row that meets fmt, with fmt's text TOLD by the authors' own Lean function (tested against real Go, not proved from fmt's source: count such statements apart). THE CARD IS WHAT COUNTS. Prove the row's statement (the work); the ties are given (YtkbbnflblkkepaaGreatDoorTie.lean); close each card by the builder's one call (the guide's Derived/Test/ToyasCard.lean, 'card_holds'). Laid BY PROGRAM, IN A SANDBOX (cutbox-door.mjs). By AI agents, Wed Nov 11 2026. No macro, syntax, notation, axiom, sorry.
-/
import Derived.Test.YtkbbnflblkkepaaGreatDoorRows
import GoSem.ClaimSeven
namespace Go.Proofs.YtkbbnflblkkepaaGreatDoor
namespace Rows

/-- THE TIED CARD OF 'laws.FnExactMapWords'. -/
def fnExactMapWordsCard : Claim7 := { stood := { row := fnExactMapWordsRow, standIns := [], harness := (true, "6c77a855cd8888ae366422b3e2f15572a15e95e68597348388ed3b0181cda22c"), looks := true }, kinds := [], alts := [], laidByText := true, laidKinds := [.handle, .data], laidTests := true, laidLooks := .later }
def FnExactMapWordsCardSaid : Prop := Claim7.holds Tryz.pinned (.plain (OpenSpec.ofChange fnExactMapWordsSpec)) fnExactMapWordsCard

/-- THE SECOND FORM's CARD OF 'laws.FnExactMapWords'. -/
def fnExactMapWordsUptoCard : Claim7 := { stood := { row := fnExactMapWordsUptoRow, standIns := [], harness := (true, "6c77a855cd8888ae366422b3e2f15572a15e95e68597348388ed3b0181cda22c"), looks := true }, kinds := [], alts := [], laidByText := true, laidKinds := [.handle, .data], laidTests := true, laidLooks := .later }
def FnExactMapWordsUptoCardSaid : Prop := Claim7.holds Tryz.pinned (.plain (OpenSpec.upto fnExactMapWordsSpec)) fnExactMapWordsUptoCard
end Rows
end Go.Proofs.YtkbbnflblkkepaaGreatDoor
