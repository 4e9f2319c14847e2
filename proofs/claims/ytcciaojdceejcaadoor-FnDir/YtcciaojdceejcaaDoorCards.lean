/-
  DERIVED. GIVEN WITH THE SEED: THE CARDS: each row of YtcciaojdceejcaaDoorRows.lean that lists a variable, with what it lists TIED to the program's text (the seventh form; the later family's looks); each row that meets fmt, with fmt's text TOLD by the authors' own Lean function (tested against real Go, not proved from fmt's source: count such statements apart). THE CARD IS WHAT COUNTS. Prove the row's statement (the work); the ties are given (YtcciaojdceejcaaDoorTie.lean); close each card by the builder's one call (the guide's Derived/Test/ToyasCard.lean, 'card_holds'). Laid BY PROGRAM, IN A SANDBOX (cutbox-door.mjs). By AI agents, Wed Nov 11 2026. No macro, syntax, notation, axiom, sorry.
-/
import Derived.Test.YtcciaojdceejcaaDoorRows
import GoSem.ClaimSeven
namespace Go.Proofs.YtcciaojdceejcaaDoor
namespace Rows

/-- THE TIED CARD OF 'laws.FnExactDirCheck'. -/
def fnExactDirCheckCard : Claim7 := { stood := { row := fnExactDirCheckRow, standIns := [], harness := (true, "2f937f484caef512ca999eb969c9c5c55abd770f8906a78851c56a7000a88058"), looks := true }, kinds := [], alts := [], laidByText := true, laidKinds := [.handle], laidTests := true, laidLooks := .later }
def FnExactDirCheckCardSaid : Prop := Claim7.holds Tryd.pinned (.plain (OpenSpec.ofChange fnExactDirCheckSpec)) fnExactDirCheckCard

/-- THE TIED CARD OF 'laws.FnDir'. -/
def fnDirCard : Claim7 := { stood := { row := fnDirRow, standIns := [], harness := (true, "2f937f484caef512ca999eb969c9c5c55abd770f8906a78851c56a7000a88058"), looks := true }, kinds := [], alts := [], laidByText := true, laidKinds := [.handle], laidTests := true, laidLooks := .later }
def FnDirCardSaid : Prop := Claim7.holds Tryd.pinned (.plain (OpenSpec.ofChange fnDirSpec)) fnDirCard

/-- THE TIED CARD OF 'laws.FnExactDirFind'. -/
def fnExactDirFindCard : Claim7 := { stood := { row := fnExactDirFindRow, standIns := [], harness := (true, "2f937f484caef512ca999eb969c9c5c55abd770f8906a78851c56a7000a88058"), looks := true }, kinds := [], alts := [], laidByText := true, laidKinds := [.handle], laidTests := true, laidLooks := .later }
def FnExactDirFindCardSaid : Prop := Claim7.holds Tryd.pinned (.plain (OpenSpec.ofChange fnExactDirFindSpec)) fnExactDirFindCard

/-- THE TIED CARD OF 'laws.FnExactDirRemove'. -/
def fnExactDirRemoveCard : Claim7 := { stood := { row := fnExactDirRemoveRow, standIns := [], harness := (true, "2f937f484caef512ca999eb969c9c5c55abd770f8906a78851c56a7000a88058"), looks := true }, kinds := [], alts := [], laidByText := true, laidKinds := [.handle], laidTests := true, laidLooks := .later }
def FnExactDirRemoveCardSaid : Prop := Claim7.holds Tryd.pinned (.plain (OpenSpec.ofChange fnExactDirRemoveSpec)) fnExactDirRemoveCard

/-- THE TIED CARD OF 'laws.FnExactDirList'. -/
def fnExactDirListCard : Claim7 := { stood := { row := fnExactDirListRow, standIns := [], harness := (true, "2f937f484caef512ca999eb969c9c5c55abd770f8906a78851c56a7000a88058"), looks := true }, kinds := [], alts := [], laidByText := true, laidKinds := [.handle], laidTests := true, laidLooks := .later }
def FnExactDirListCardSaid : Prop := Claim7.holds Tryd.pinned (.plain (OpenSpec.ofChange fnExactDirListSpec)) fnExactDirListCard

/-- THE TIED CARD OF 'laws.FnExactDirAdd'. -/
def fnExactDirAddCard : Claim7 := { stood := { row := fnExactDirAddRow, standIns := [], harness := (true, "2f937f484caef512ca999eb969c9c5c55abd770f8906a78851c56a7000a88058"), looks := true }, kinds := [], alts := [], laidByText := true, laidKinds := [.handle], laidTests := true, laidLooks := .later }
def FnExactDirAddCardSaid : Prop := Claim7.holds Tryd.pinned (.plain (OpenSpec.ofChange fnExactDirAddSpec)) fnExactDirAddCard

/-- THE SECOND FORM's CARD OF 'laws.FnExactDirCheck'. -/
def fnExactDirCheckUptoCard : Claim7 := { stood := { row := fnExactDirCheckUptoRow, standIns := [], harness := (true, "2f937f484caef512ca999eb969c9c5c55abd770f8906a78851c56a7000a88058"), looks := true }, kinds := [], alts := [], laidByText := true, laidKinds := [.handle], laidTests := true, laidLooks := .later }
def FnExactDirCheckUptoCardSaid : Prop := Claim7.holds Tryd.pinned (.plain (OpenSpec.upto fnExactDirCheckSpec)) fnExactDirCheckUptoCard

/-- THE SECOND FORM's CARD OF 'laws.FnDir'. -/
def fnDirUptoCard : Claim7 := { stood := { row := fnDirUptoRow, standIns := [], harness := (true, "2f937f484caef512ca999eb969c9c5c55abd770f8906a78851c56a7000a88058"), looks := true }, kinds := [], alts := [], laidByText := true, laidKinds := [.handle], laidTests := true, laidLooks := .later }
def FnDirUptoCardSaid : Prop := Claim7.holds Tryd.pinned (.plain (OpenSpec.upto fnDirSpec)) fnDirUptoCard

/-- THE SECOND FORM's CARD OF 'laws.FnExactDirFind'. -/
def fnExactDirFindUptoCard : Claim7 := { stood := { row := fnExactDirFindUptoRow, standIns := [], harness := (true, "2f937f484caef512ca999eb969c9c5c55abd770f8906a78851c56a7000a88058"), looks := true }, kinds := [], alts := [], laidByText := true, laidKinds := [.handle], laidTests := true, laidLooks := .later }
def FnExactDirFindUptoCardSaid : Prop := Claim7.holds Tryd.pinned (.plain (OpenSpec.upto fnExactDirFindSpec)) fnExactDirFindUptoCard

/-- THE SECOND FORM's CARD OF 'laws.FnExactDirRemove'. -/
def fnExactDirRemoveUptoCard : Claim7 := { stood := { row := fnExactDirRemoveUptoRow, standIns := [], harness := (true, "2f937f484caef512ca999eb969c9c5c55abd770f8906a78851c56a7000a88058"), looks := true }, kinds := [], alts := [], laidByText := true, laidKinds := [.handle], laidTests := true, laidLooks := .later }
def FnExactDirRemoveUptoCardSaid : Prop := Claim7.holds Tryd.pinned (.plain (OpenSpec.upto fnExactDirRemoveSpec)) fnExactDirRemoveUptoCard

/-- THE SECOND FORM's CARD OF 'laws.FnExactDirList'. -/
def fnExactDirListUptoCard : Claim7 := { stood := { row := fnExactDirListUptoRow, standIns := [], harness := (true, "2f937f484caef512ca999eb969c9c5c55abd770f8906a78851c56a7000a88058"), looks := true }, kinds := [], alts := [], laidByText := true, laidKinds := [.handle], laidTests := true, laidLooks := .later }
def FnExactDirListUptoCardSaid : Prop := Claim7.holds Tryd.pinned (.plain (OpenSpec.upto fnExactDirListSpec)) fnExactDirListUptoCard

/-- THE SECOND FORM's CARD OF 'laws.FnExactDirAdd'. -/
def fnExactDirAddUptoCard : Claim7 := { stood := { row := fnExactDirAddUptoRow, standIns := [], harness := (true, "2f937f484caef512ca999eb969c9c5c55abd770f8906a78851c56a7000a88058"), looks := true }, kinds := [], alts := [], laidByText := true, laidKinds := [.handle], laidTests := true, laidLooks := .later }
def FnExactDirAddUptoCardSaid : Prop := Claim7.holds Tryd.pinned (.plain (OpenSpec.upto fnExactDirAddSpec)) fnExactDirAddUptoCard
end Rows
end Go.Proofs.YtcciaojdceejcaaDoor
