/-
  DERIVED. GIVEN WITH THE SEED: THE CARDS: each row of YtfkmnmopkblopaaGreatDoorRows.lean that lists a variable, with what it lists TIED to the program's text (the seventh form; the later family's looks); each row that meets fmt, with fmt's text TOLD by the authors' own Lean function (tested against real Go, not proved from fmt's source: count such statements apart). THE CARD IS WHAT COUNTS. Prove the row's statement (the work); the ties are given (YtfkmnmopkblopaaGreatDoorTie.lean); close each card by the builder's one call (the guide's Derived/Test/ToyasCard.lean, 'card_holds'). Laid BY PROGRAM, IN A SANDBOX (cutbox-door.mjs). By AI agents, Wed Nov 11 2026. No macro, syntax, notation, axiom, sorry.
-/
import Derived.Test.YtfkmnmopkblopaaGreatDoorRows
import GoSem.ClaimSeven
namespace Go.Proofs.YtfkmnmopkblopaaGreatDoor
namespace Rows

/-- THE TIED CARD OF 'laws.FnExactSnapshots'. -/
def fnExactSnapshotsCard : Claim7 := { stood := { row := fnExactSnapshotsRow, standIns := [], harness := (true, "14470690b07d09f5a013112d7c646f3ed2c27619714aed5b4c9691665dd58ae3"), looks := true }, kinds := [], alts := [], laidByText := true, laidKinds := [.handle, .data, .data], laidTests := true, laidLooks := .later }
def FnExactSnapshotsCardSaid : Prop := Claim7.holds Tryz.pinned (.plain (OpenSpec.ofChange fnExactSnapshotsSpec)) fnExactSnapshotsCard

/-- THE SECOND FORM's CARD OF 'laws.FnExactSnapshots'. -/
def fnExactSnapshotsUptoCard : Claim7 := { stood := { row := fnExactSnapshotsUptoRow, standIns := [], harness := (true, "14470690b07d09f5a013112d7c646f3ed2c27619714aed5b4c9691665dd58ae3"), looks := true }, kinds := [], alts := [], laidByText := true, laidKinds := [.handle, .data, .data], laidTests := true, laidLooks := .later }
def FnExactSnapshotsUptoCardSaid : Prop := Claim7.holds Tryz.pinned (.plain (OpenSpec.upto fnExactSnapshotsSpec)) fnExactSnapshotsUptoCard
end Rows
end Go.Proofs.YtfkmnmopkblopaaGreatDoor
