/-
  DERIVED. GIVEN WITH THE SEED: THE CARDS: each row of YtfkmnmopkblopaaDoorRows.lean that lists a variable, with what it lists TIED to the program's text (the seventh form; the later family's looks); each row that meets fmt, with fmt's text TOLD by the authors' own Lean function (tested against real Go, not proved from fmt's source: count such statements apart). THE CARD IS WHAT COUNTS. Prove the row's statement (the work); the ties are given (YtfkmnmopkblopaaDoorTie.lean); close each card by the builder's one call (the guide's Derived/Test/ToyasCard.lean, 'card_holds'). Laid BY PROGRAM, IN A SANDBOX (cutbox-door.mjs). By AI agents, Wed Nov 11 2026. No macro, syntax, notation, axiom, sorry.
-/
import Derived.Test.YtfkmnmopkblopaaDoorRows
import GoSem.ClaimSeven
namespace Go.Proofs.YtfkmnmopkblopaaDoor
namespace Rows

/-- THE TIED CARD OF 'laws.FnExactChooseFsinfo'. -/
def fnExactChooseFsinfoCard : Claim7 := { stood := { row := fnExactChooseFsinfoRow, standIns := [], harness := (true, "cf7e19acb29fc8f1b442ef1886d4c0abb7d119428819da87aaa5ddaf91aa78a8"), looks := true }, kinds := [], alts := [], laidByText := true, laidKinds := [.handle, .data], laidTests := true, laidLooks := .later }
def FnExactChooseFsinfoCardSaid : Prop := Claim7.holds Tryd.pinned (.plain (OpenSpec.ofChange fnExactChooseFsinfoSpec)) fnExactChooseFsinfoCard

/-- THE SECOND FORM's CARD OF 'laws.FnExactChooseFsinfo'. -/
def fnExactChooseFsinfoUptoCard : Claim7 := { stood := { row := fnExactChooseFsinfoUptoRow, standIns := [], harness := (true, "cf7e19acb29fc8f1b442ef1886d4c0abb7d119428819da87aaa5ddaf91aa78a8"), looks := true }, kinds := [], alts := [], laidByText := true, laidKinds := [.handle, .data], laidTests := true, laidLooks := .later }
def FnExactChooseFsinfoUptoCardSaid : Prop := Claim7.holds Tryd.pinned (.plain (OpenSpec.upto fnExactChooseFsinfoSpec)) fnExactChooseFsinfoUptoCard
end Rows
end Go.Proofs.YtfkmnmopkblopaaDoor
