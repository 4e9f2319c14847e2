/-
  DERIVED. GIVEN WITH THE SEED: THE CARDS: each row of YtlgafpjmifacmaaDoorRows.lean that lists a variable, with what it lists TIED to the program's text (the seventh form; the later family's looks); each row that meets fmt, with fmt's text TOLD by the authors' own Lean function (tested against real Go, not proved from fmt's source: count such statements apart). THE CARD IS WHAT COUNTS. Prove the row's statement (the work); the ties are given (YtlgafpjmifacmaaDoorTie.lean); close each card by the builder's one call (the guide's Derived/Test/ToyasCard.lean, 'card_holds'). Laid BY PROGRAM, IN A SANDBOX (cutbox-door.mjs). By AI agents, Wed Nov 11 2026. No macro, syntax, notation, axiom, sorry.
-/
import Derived.Test.YtlgafpjmifacmaaDoorRows
import GoSem.ClaimSeven
namespace Go.Proofs.YtlgafpjmifacmaaDoor
namespace Rows

/-- THE TIED CARD OF 'laws.FnExactEncodeTable'. -/
def fnExactEncodeTableCard : Claim7 := { stood := { row := fnExactEncodeTableRow, standIns := [], harness := (true, "5ee2761d29b3fec4a792206e7a2a2b832c36d01c6792156c80ce3327cf79b0a1"), looks := true }, kinds := [], alts := [], laidByText := true, laidKinds := [.handle], laidTests := true, laidLooks := .later }
def FnExactEncodeTableCardSaid : Prop := Claim7.holds Tryd.pinned (.plain (OpenSpec.ofChange fnExactEncodeTableSpec)) fnExactEncodeTableCard

/-- THE TIED CARD OF 'laws.FnExactDecodeTable'. -/
def fnExactDecodeTableCard : Claim7 := { stood := { row := fnExactDecodeTableRow, standIns := [], harness := (true, "5ee2761d29b3fec4a792206e7a2a2b832c36d01c6792156c80ce3327cf79b0a1"), looks := true }, kinds := [], alts := [], laidByText := true, laidKinds := [.handle], laidTests := true, laidLooks := .later }
def FnExactDecodeTableCardSaid : Prop := Claim7.holds Tryd.pinned (.plain (OpenSpec.ofChange fnExactDecodeTableSpec)) fnExactDecodeTableCard

/-- THE TIED CARD OF 'laws.FnTable'. -/
def fnTableCard : Claim7 := { stood := { row := fnTableRow, standIns := [], harness := (true, "5ee2761d29b3fec4a792206e7a2a2b832c36d01c6792156c80ce3327cf79b0a1"), looks := true }, kinds := [], alts := [], laidByText := true, laidKinds := [.handle], laidTests := true, laidLooks := .later }
def FnTableCardSaid : Prop := Claim7.holds Tryd.pinned (.plain (OpenSpec.ofChange fnTableSpec)) fnTableCard

/-- THE SECOND FORM's CARD OF 'laws.FnExactEncodeTable'. -/
def fnExactEncodeTableUptoCard : Claim7 := { stood := { row := fnExactEncodeTableUptoRow, standIns := [], harness := (true, "5ee2761d29b3fec4a792206e7a2a2b832c36d01c6792156c80ce3327cf79b0a1"), looks := true }, kinds := [], alts := [], laidByText := true, laidKinds := [.handle], laidTests := true, laidLooks := .later }
def FnExactEncodeTableUptoCardSaid : Prop := Claim7.holds Tryd.pinned (.plain (OpenSpec.upto fnExactEncodeTableSpec)) fnExactEncodeTableUptoCard

/-- THE SECOND FORM's CARD OF 'laws.FnExactDecodeTable'. -/
def fnExactDecodeTableUptoCard : Claim7 := { stood := { row := fnExactDecodeTableUptoRow, standIns := [], harness := (true, "5ee2761d29b3fec4a792206e7a2a2b832c36d01c6792156c80ce3327cf79b0a1"), looks := true }, kinds := [], alts := [], laidByText := true, laidKinds := [.handle], laidTests := true, laidLooks := .later }
def FnExactDecodeTableUptoCardSaid : Prop := Claim7.holds Tryd.pinned (.plain (OpenSpec.upto fnExactDecodeTableSpec)) fnExactDecodeTableUptoCard

/-- THE SECOND FORM's CARD OF 'laws.FnTable'. -/
def fnTableUptoCard : Claim7 := { stood := { row := fnTableUptoRow, standIns := [], harness := (true, "5ee2761d29b3fec4a792206e7a2a2b832c36d01c6792156c80ce3327cf79b0a1"), looks := true }, kinds := [], alts := [], laidByText := true, laidKinds := [.handle], laidTests := true, laidLooks := .later }
def FnTableUptoCardSaid : Prop := Claim7.holds Tryd.pinned (.plain (OpenSpec.upto fnTableSpec)) fnTableUptoCard
end Rows
end Go.Proofs.YtlgafpjmifacmaaDoor
