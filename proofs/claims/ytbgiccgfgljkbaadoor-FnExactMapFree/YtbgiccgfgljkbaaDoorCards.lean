/-
  DERIVED. GIVEN WITH THE SEED: THE CARDS: each row of YtbgiccgfgljkbaaDoorRows.lean that lists a variable, with what it lists TIED to the program's text (the seventh form; the later family's looks); each row that meets fmt, with fmt's text TOLD by the authors' own Lean function (tested against real Go, not proved from fmt's source: count such statements apart). THE CARD IS WHAT COUNTS. Prove the row's statement (the work); the ties are given (YtbgiccgfgljkbaaDoorTie.lean); close each card by the builder's one call (the guide's Derived/Test/ToyasCard.lean, 'card_holds'). Laid BY PROGRAM, IN A SANDBOX (cutbox-door.mjs). By AI agents, Wed Nov 11 2026. No macro, syntax, notation, axiom, sorry.
-/
import Derived.Test.YtbgiccgfgljkbaaDoorRows
import GoSem.ClaimSeven
namespace Go.Proofs.YtbgiccgfgljkbaaDoor
namespace Rows

/-- THE TIED CARD OF 'laws.FnExactMapCount'. -/
def fnExactMapCountCard : Claim7 := { stood := { row := fnExactMapCountRow, standIns := [], harness := (true, "6060a9b56fd4c30639fe9b20c4ceabbe9bfe012b3820e54384cb670d18a0c668"), looks := true }, kinds := [], alts := [], laidByText := true, laidKinds := [.handle], laidTests := true, laidLooks := .later }
def FnExactMapCountCardSaid : Prop := Claim7.holds Tryd.pinned (.plain (OpenSpec.ofChange fnExactMapCountSpec)) fnExactMapCountCard

/-- THE TIED CARD OF 'laws.FnExactMapPlane'. -/
def fnExactMapPlaneCard : Claim7 := { stood := { row := fnExactMapPlaneRow, standIns := [], harness := (true, "6060a9b56fd4c30639fe9b20c4ceabbe9bfe012b3820e54384cb670d18a0c668"), looks := true }, kinds := [], alts := [], laidByText := true, laidKinds := [.handle], laidTests := true, laidLooks := .later }
def FnExactMapPlaneCardSaid : Prop := Claim7.holds Tryd.pinned (.plain (OpenSpec.ofChange fnExactMapPlaneSpec)) fnExactMapPlaneCard

/-- THE TIED CARD OF 'laws.FnFree'. -/
def fnFreeCard : Claim7 := { stood := { row := fnFreeRow, standIns := [], harness := (true, "6060a9b56fd4c30639fe9b20c4ceabbe9bfe012b3820e54384cb670d18a0c668"), looks := true }, kinds := [], alts := [], laidByText := true, laidKinds := [.handle], laidTests := true, laidLooks := .later }
def FnFreeCardSaid : Prop := Claim7.holds Tryd.pinned (.plain (OpenSpec.ofChange fnFreeSpec)) fnFreeCard

/-- THE TIED CARD OF 'laws.FnExactMapFree'. -/
def fnExactMapFreeCard : Claim7 := { stood := { row := fnExactMapFreeRow, standIns := [], harness := (true, "6060a9b56fd4c30639fe9b20c4ceabbe9bfe012b3820e54384cb670d18a0c668"), looks := true }, kinds := [], alts := [], laidByText := true, laidKinds := [.handle], laidTests := true, laidLooks := .later }
def FnExactMapFreeCardSaid : Prop := Claim7.holds Tryd.pinned (.plain (OpenSpec.ofChange fnExactMapFreeSpec)) fnExactMapFreeCard

/-- THE SECOND FORM's CARD OF 'laws.FnExactMapCount'. -/
def fnExactMapCountUptoCard : Claim7 := { stood := { row := fnExactMapCountUptoRow, standIns := [], harness := (true, "6060a9b56fd4c30639fe9b20c4ceabbe9bfe012b3820e54384cb670d18a0c668"), looks := true }, kinds := [], alts := [], laidByText := true, laidKinds := [.handle], laidTests := true, laidLooks := .later }
def FnExactMapCountUptoCardSaid : Prop := Claim7.holds Tryd.pinned (.plain (OpenSpec.upto fnExactMapCountSpec)) fnExactMapCountUptoCard

/-- THE SECOND FORM's CARD OF 'laws.FnExactMapPlane'. -/
def fnExactMapPlaneUptoCard : Claim7 := { stood := { row := fnExactMapPlaneUptoRow, standIns := [], harness := (true, "6060a9b56fd4c30639fe9b20c4ceabbe9bfe012b3820e54384cb670d18a0c668"), looks := true }, kinds := [], alts := [], laidByText := true, laidKinds := [.handle], laidTests := true, laidLooks := .later }
def FnExactMapPlaneUptoCardSaid : Prop := Claim7.holds Tryd.pinned (.plain (OpenSpec.upto fnExactMapPlaneSpec)) fnExactMapPlaneUptoCard

/-- THE SECOND FORM's CARD OF 'laws.FnFree'. -/
def fnFreeUptoCard : Claim7 := { stood := { row := fnFreeUptoRow, standIns := [], harness := (true, "6060a9b56fd4c30639fe9b20c4ceabbe9bfe012b3820e54384cb670d18a0c668"), looks := true }, kinds := [], alts := [], laidByText := true, laidKinds := [.handle], laidTests := true, laidLooks := .later }
def FnFreeUptoCardSaid : Prop := Claim7.holds Tryd.pinned (.plain (OpenSpec.upto fnFreeSpec)) fnFreeUptoCard

/-- THE SECOND FORM's CARD OF 'laws.FnExactMapFree'. -/
def fnExactMapFreeUptoCard : Claim7 := { stood := { row := fnExactMapFreeUptoRow, standIns := [], harness := (true, "6060a9b56fd4c30639fe9b20c4ceabbe9bfe012b3820e54384cb670d18a0c668"), looks := true }, kinds := [], alts := [], laidByText := true, laidKinds := [.handle], laidTests := true, laidLooks := .later }
def FnExactMapFreeUptoCardSaid : Prop := Claim7.holds Tryd.pinned (.plain (OpenSpec.upto fnExactMapFreeSpec)) fnExactMapFreeUptoCard
end Rows
end Go.Proofs.YtbgiccgfgljkbaaDoor
