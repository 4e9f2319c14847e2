/-
  DERIVED. GIVEN WITH THE SEED: THE CARDS: each row of YtnljpaohkkdjjaaDoorRows.lean that lists a variable, with what it lists TIED to the program's text (the seventh form; the later family's looks); each row that meets fmt, with fmt's text TOLD by the authors' own Lean function (tested against real Go, not proved from fmt's source: count such statements apart). THE CARD IS WHAT COUNTS. Prove the row's statement (the work); the ties are given (YtnljpaohkkdjjaaDoorTie.lean); close each card by the builder's one call (the guide's Derived/Test/ToyasCard.lean, 'card_holds'). Laid BY PROGRAM, IN A SANDBOX (cutbox-door.mjs). By AI agents, Wed Nov 11 2026. No macro, syntax, notation, axiom, sorry.
-/
import Derived.Test.YtnljpaohkkdjjaaDoorRows
import GoSem.ClaimSeven
namespace Go.Proofs.YtnljpaohkkdjjaaDoor
namespace Rows

/-- THE TIED CARD OF 'laws.FnExactTellAns'. -/
def fnExactTellAnsCard : Claim7 := { stood := { row := fnExactTellAnsRow, standIns := [], harness := (true, "f5db7a9b20f7ef988f6efa4dbd3007d8a8d518569a4da25d48755cccd6f6873c"), looks := false }, kinds := [], alts := [], laidByText := true, laidKinds := [.data, .data, .data], laidTests := true, laidLooks := .later }
def FnExactTellAnsCardSaid : Prop := Claim7.holds Tryd.pinned (.plain (OpenSpec.ofChange fnExactTellAnsSpec)) fnExactTellAnsCard

/-- THE SECOND FORM's CARD OF 'laws.FnExactTellAns'. -/
def fnExactTellAnsUptoCard : Claim7 := { stood := { row := fnExactTellAnsUptoRow, standIns := [], harness := (true, "f5db7a9b20f7ef988f6efa4dbd3007d8a8d518569a4da25d48755cccd6f6873c"), looks := false }, kinds := [], alts := [], laidByText := true, laidKinds := [.data, .data, .data], laidTests := true, laidLooks := .later }
def FnExactTellAnsUptoCardSaid : Prop := Claim7.holds Tryd.pinned (.plain (OpenSpec.upto fnExactTellAnsSpec)) fnExactTellAnsUptoCard
end Rows
end Go.Proofs.YtnljpaohkkdjjaaDoor
