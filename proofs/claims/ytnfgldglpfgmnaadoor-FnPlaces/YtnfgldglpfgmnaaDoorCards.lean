/-
  DERIVED. GIVEN WITH THE SEED: THE CARDS: each row of YtnfgldglpfgmnaaDoorRows.lean that lists a variable, with what it lists TIED to the program's text (the seventh form; the later family's looks); each row that meets fmt, with fmt's text TOLD by the authors' own Lean function (tested against real Go, not proved from fmt's source: count such statements apart). THE CARD IS WHAT COUNTS. Prove the row's statement (the work); the ties are given (YtnfgldglpfgmnaaDoorTie.lean); close each card by the builder's one call (the guide's Derived/Test/ToyasCard.lean, 'card_holds'). Laid BY PROGRAM, IN A SANDBOX (cutbox-door.mjs). By AI agents, Wed Nov 11 2026. No macro, syntax, notation, axiom, sorry.
-/
import Derived.Test.YtnfgldglpfgmnaaDoorRows
import GoSem.ClaimSeven
namespace Go.Proofs.YtnfgldglpfgmnaaDoor
namespace Rows

/-- THE TIED CARD OF 'laws.FnPlaces'. -/
def fnPlacesCard : Claim7 := { stood := { row := fnPlacesRow, standIns := [], harness := (true, "51db4ebfe954c0b38bf5f5bcc2a6b624cd5154fb64bbf9498eb752af1ce50403"), looks := true }, kinds := [], alts := [], laidByText := true, laidKinds := [.handle], laidTests := true, laidLooks := .later }
def FnPlacesCardSaid : Prop := Claim7.holds Tryd.pinned (.plain (OpenSpec.ofChange fnPlacesSpec)) fnPlacesCard

/-- THE TIED CARD OF 'laws.FnExactTreeRead'. -/
def fnExactTreeReadCard : Claim7 := { stood := { row := fnExactTreeReadRow, standIns := [], harness := (true, "51db4ebfe954c0b38bf5f5bcc2a6b624cd5154fb64bbf9498eb752af1ce50403"), looks := true }, kinds := [], alts := [], laidByText := true, laidKinds := [.handle], laidTests := true, laidLooks := .later }
def FnExactTreeReadCardSaid : Prop := Claim7.holds Tryd.pinned (.plain (OpenSpec.ofChange fnExactTreeReadSpec)) fnExactTreeReadCard

/-- THE TIED CARD OF 'laws.FnExactTreeBlocks'. -/
def fnExactTreeBlocksCard : Claim7 := { stood := { row := fnExactTreeBlocksRow, standIns := [], harness := (true, "51db4ebfe954c0b38bf5f5bcc2a6b624cd5154fb64bbf9498eb752af1ce50403"), looks := true }, kinds := [], alts := [], laidByText := true, laidKinds := [.handle], laidTests := true, laidLooks := .later }
def FnExactTreeBlocksCardSaid : Prop := Claim7.holds Tryd.pinned (.plain (OpenSpec.ofChange fnExactTreeBlocksSpec)) fnExactTreeBlocksCard

/-- THE TIED CARD OF 'laws.FnExactTreeNeed'. -/
def fnExactTreeNeedCard : Claim7 := { stood := { row := fnExactTreeNeedRow, standIns := [], harness := (true, "51db4ebfe954c0b38bf5f5bcc2a6b624cd5154fb64bbf9498eb752af1ce50403"), looks := true }, kinds := [], alts := [], laidByText := true, laidKinds := [.handle], laidTests := true, laidLooks := .later }
def FnExactTreeNeedCardSaid : Prop := Claim7.holds Tryd.pinned (.plain (OpenSpec.ofChange fnExactTreeNeedSpec)) fnExactTreeNeedCard

/-- THE SECOND FORM's CARD OF 'laws.FnPlaces'. -/
def fnPlacesUptoCard : Claim7 := { stood := { row := fnPlacesUptoRow, standIns := [], harness := (true, "51db4ebfe954c0b38bf5f5bcc2a6b624cd5154fb64bbf9498eb752af1ce50403"), looks := true }, kinds := [], alts := [], laidByText := true, laidKinds := [.handle], laidTests := true, laidLooks := .later }
def FnPlacesUptoCardSaid : Prop := Claim7.holds Tryd.pinned (.plain (OpenSpec.upto fnPlacesSpec)) fnPlacesUptoCard

/-- THE SECOND FORM's CARD OF 'laws.FnExactTreeRead'. -/
def fnExactTreeReadUptoCard : Claim7 := { stood := { row := fnExactTreeReadUptoRow, standIns := [], harness := (true, "51db4ebfe954c0b38bf5f5bcc2a6b624cd5154fb64bbf9498eb752af1ce50403"), looks := true }, kinds := [], alts := [], laidByText := true, laidKinds := [.handle], laidTests := true, laidLooks := .later }
def FnExactTreeReadUptoCardSaid : Prop := Claim7.holds Tryd.pinned (.plain (OpenSpec.upto fnExactTreeReadSpec)) fnExactTreeReadUptoCard

/-- THE SECOND FORM's CARD OF 'laws.FnExactTreeBlocks'. -/
def fnExactTreeBlocksUptoCard : Claim7 := { stood := { row := fnExactTreeBlocksUptoRow, standIns := [], harness := (true, "51db4ebfe954c0b38bf5f5bcc2a6b624cd5154fb64bbf9498eb752af1ce50403"), looks := true }, kinds := [], alts := [], laidByText := true, laidKinds := [.handle], laidTests := true, laidLooks := .later }
def FnExactTreeBlocksUptoCardSaid : Prop := Claim7.holds Tryd.pinned (.plain (OpenSpec.upto fnExactTreeBlocksSpec)) fnExactTreeBlocksUptoCard

/-- THE SECOND FORM's CARD OF 'laws.FnExactTreeNeed'. -/
def fnExactTreeNeedUptoCard : Claim7 := { stood := { row := fnExactTreeNeedUptoRow, standIns := [], harness := (true, "51db4ebfe954c0b38bf5f5bcc2a6b624cd5154fb64bbf9498eb752af1ce50403"), looks := true }, kinds := [], alts := [], laidByText := true, laidKinds := [.handle], laidTests := true, laidLooks := .later }
def FnExactTreeNeedUptoCardSaid : Prop := Claim7.holds Tryd.pinned (.plain (OpenSpec.upto fnExactTreeNeedSpec)) fnExactTreeNeedUptoCard
end Rows
end Go.Proofs.YtnfgldglpfgmnaaDoor
