/-
  DERIVED. GIVEN WITH THE SEED: THE CARDS: each row of YtmmhkjpkidljlaaDoorRows.lean that lists a variable, with what it lists TIED to the program's text (the seventh form; the later family's looks); each row that meets fmt, with fmt's text TOLD by the authors' own Lean function (tested against real Go, not proved from fmt's source: count such statements apart). THE CARD IS WHAT COUNTS. Prove the row's statement (the work); the ties are given (YtmmhkjpkidljlaaDoorTie.lean); close each card by the builder's one call (the guide's Derived/Test/ToyasCard.lean, 'card_holds'). Laid BY PROGRAM, IN A SANDBOX (cutbox-door.mjs). By AI agents, Wed Nov 11 2026. No macro, syntax, notation, axiom, sorry.
-/
import Derived.Test.YtmmhkjpkidljlaaDoorRows
import GoSem.ClaimSeven
namespace Go.Proofs.YtmmhkjpkidljlaaDoor
namespace Rows

/-- THE TIED CARD OF 'laws.FnExactCpSteps'. -/
def fnExactCpStepsCard : Claim7 := { stood := { row := fnExactCpStepsRow, standIns := [], harness := (true, "f79db4a92565ff015ee40af8abdd33c83cba1b56352f9820e694ddbd22739d49"), looks := true }, kinds := [], alts := [], laidByText := true, laidKinds := [.handle, .data], laidTests := true, laidLooks := .later }
def FnExactCpStepsCardSaid : Prop := Claim7.holds Tryd.pinned (.plain (OpenSpec.ofChange fnExactCpStepsSpec)) fnExactCpStepsCard

/-- THE SECOND FORM's CARD OF 'laws.FnExactCpSteps'. -/
def fnExactCpStepsUptoCard : Claim7 := { stood := { row := fnExactCpStepsUptoRow, standIns := [], harness := (true, "f79db4a92565ff015ee40af8abdd33c83cba1b56352f9820e694ddbd22739d49"), looks := true }, kinds := [], alts := [], laidByText := true, laidKinds := [.handle, .data], laidTests := true, laidLooks := .later }
def FnExactCpStepsUptoCardSaid : Prop := Claim7.holds Tryd.pinned (.plain (OpenSpec.upto fnExactCpStepsSpec)) fnExactCpStepsUptoCard
end Rows
end Go.Proofs.YtmmhkjpkidljlaaDoor
