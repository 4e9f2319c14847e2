/-
  DERIVED. GIVEN WITH THE SEED: THE CARDS: each row of YtlimollpocagiaaGreatDoorRows.lean that lists a variable, with what it lists TIED to the program's text (the seventh form; the later family's looks); each row that meets fmt, with fmt's text TOLD by the authors' own Lean function (tested against real Go, not proved from fmt's source: count such statements apart). THE CARD IS WHAT COUNTS. Prove the row's statement (the work); the ties are given (YtlimollpocagiaaGreatDoorTie.lean); close each card by the builder's one call (the guide's Derived/Test/ToyasCard.lean, 'card_holds'). Laid BY PROGRAM, IN A SANDBOX (cutbox-door.mjs). By AI agents, Wed Nov 11 2026. No macro, syntax, notation, axiom, sorry.
-/
import Derived.Test.YtlimollpocagiaaGreatDoorRows
import GoSem.ClaimSeven
namespace Go.Proofs.YtlimollpocagiaaGreatDoor
namespace Rows

/-- THE TIED CARD OF 'laws.FnMap'. -/
def fnMapCard : Claim7 := { stood := { row := fnMapRow, standIns := [], harness := (true, "fa37d683a0aea03111a66306878d0dd67dc2485543aa7ef08629083fb74c2a88"), looks := true }, kinds := [], alts := [], laidByText := true, laidKinds := [.handle], laidTests := true, laidLooks := .later }
def FnMapCardSaid : Prop := Claim7.holds Tryz.pinned (.plain (OpenSpec.ofChange fnMapSpec)) fnMapCard

/-- THE TIED CARD OF 'laws.FnExactMapFlush'. -/
def fnExactMapFlushCard : Claim7 := { stood := { row := fnExactMapFlushRow, standIns := [], harness := (true, "fa37d683a0aea03111a66306878d0dd67dc2485543aa7ef08629083fb74c2a88"), looks := true }, kinds := [], alts := [], laidByText := true, laidKinds := [.handle], laidTests := true, laidLooks := .later }
def FnExactMapFlushCardSaid : Prop := Claim7.holds Tryz.pinned (.plain (OpenSpec.ofChange fnExactMapFlushSpec)) fnExactMapFlushCard

/-- THE SECOND FORM's CARD OF 'laws.FnMap'. -/
def fnMapUptoCard : Claim7 := { stood := { row := fnMapUptoRow, standIns := [], harness := (true, "fa37d683a0aea03111a66306878d0dd67dc2485543aa7ef08629083fb74c2a88"), looks := true }, kinds := [], alts := [], laidByText := true, laidKinds := [.handle], laidTests := true, laidLooks := .later }
def FnMapUptoCardSaid : Prop := Claim7.holds Tryz.pinned (.plain (OpenSpec.upto fnMapSpec)) fnMapUptoCard

/-- THE SECOND FORM's CARD OF 'laws.FnExactMapFlush'. -/
def fnExactMapFlushUptoCard : Claim7 := { stood := { row := fnExactMapFlushUptoRow, standIns := [], harness := (true, "fa37d683a0aea03111a66306878d0dd67dc2485543aa7ef08629083fb74c2a88"), looks := true }, kinds := [], alts := [], laidByText := true, laidKinds := [.handle], laidTests := true, laidLooks := .later }
def FnExactMapFlushUptoCardSaid : Prop := Claim7.holds Tryz.pinned (.plain (OpenSpec.upto fnExactMapFlushSpec)) fnExactMapFlushUptoCard
end Rows
end Go.Proofs.YtlimollpocagiaaGreatDoor
