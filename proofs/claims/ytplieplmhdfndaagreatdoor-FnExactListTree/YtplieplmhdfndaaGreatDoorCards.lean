/-
  DERIVED. GIVEN WITH THE SEED: THE CARDS: each row of YtplieplmhdfndaaGreatDoorRows.lean that lists a variable, with what it lists TIED to the program's text (the seventh form; the later family's looks); each row that meets fmt, with fmt's text TOLD by the authors' own Lean function (tested against real Go, not proved from fmt's source: count such statements apart). THE CARD IS WHAT COUNTS. Prove the row's statement (the work); the ties are given (YtplieplmhdfndaaGreatDoorTie.lean); close each card by the builder's one call (the guide's Derived/Test/ToyasCard.lean, 'card_holds'). Laid BY PROGRAM, IN A SANDBOX (cutbox-door.mjs). By AI agents, Wed Nov 11 2026. No macro, syntax, notation, axiom, sorry.
-/
import Derived.Test.YtplieplmhdfndaaGreatDoorRows
import GoSem.ClaimSeven
namespace Go.Proofs.YtplieplmhdfndaaGreatDoor
namespace Rows

/-- THE TIED CARD OF 'laws.FnExactStateCheck'. -/
def fnExactStateCheckCard : Claim7 := { stood := { row := fnExactStateCheckRow, standIns := [], harness := (true, "7f34f77ed8ffe4c5ab95e251396f2c29d9b01b9e59b7c129f117c1d2fc805b04"), looks := true }, kinds := [], alts := [], laidByText := true, laidKinds := [.handle], laidTests := true, laidLooks := .later }
def FnExactStateCheckCardSaid : Prop := Claim7.holds Tryz.pinned (.plain (OpenSpec.ofChange fnExactStateCheckSpec)) fnExactStateCheckCard

/-- THE TIED CARD OF 'laws.FnExactListTree'. -/
def fnExactListTreeCard : Claim7 := { stood := { row := fnExactListTreeRow, standIns := [], harness := (true, "7f34f77ed8ffe4c5ab95e251396f2c29d9b01b9e59b7c129f117c1d2fc805b04"), looks := true }, kinds := [], alts := [], laidByText := true, laidKinds := [.handle], laidTests := true, laidLooks := .later }
def FnExactListTreeCardSaid : Prop := Claim7.holds Tryz.pinned (.plain (OpenSpec.ofChange fnExactListTreeSpec)) fnExactListTreeCard

/-- THE TIED CARD OF 'laws.FnExactWalk'. -/
def fnExactWalkCard : Claim7 := { stood := { row := fnExactWalkRow, standIns := [], harness := (true, "7f34f77ed8ffe4c5ab95e251396f2c29d9b01b9e59b7c129f117c1d2fc805b04"), looks := true }, kinds := [], alts := [], laidByText := true, laidKinds := [.handle], laidTests := true, laidLooks := .later }
def FnExactWalkCardSaid : Prop := Claim7.holds Tryz.pinned (.plain (OpenSpec.ofChange fnExactWalkSpec)) fnExactWalkCard

/-- THE TIED CARD OF 'laws.FnExactWalkDir'. -/
def fnExactWalkDirCard : Claim7 := { stood := { row := fnExactWalkDirRow, standIns := [], harness := (true, "7f34f77ed8ffe4c5ab95e251396f2c29d9b01b9e59b7c129f117c1d2fc805b04"), looks := true }, kinds := [], alts := [], laidByText := true, laidKinds := [.handle], laidTests := true, laidLooks := .later }
def FnExactWalkDirCardSaid : Prop := Claim7.holds Tryz.pinned (.plain (OpenSpec.ofChange fnExactWalkDirSpec)) fnExactWalkDirCard

/-- THE TIED CARD OF 'laws.FnWalk'. -/
def fnWalkCard : Claim7 := { stood := { row := fnWalkRow, standIns := [], harness := (true, "7f34f77ed8ffe4c5ab95e251396f2c29d9b01b9e59b7c129f117c1d2fc805b04"), looks := true }, kinds := [], alts := [], laidByText := true, laidKinds := [.handle], laidTests := true, laidLooks := .later }
def FnWalkCardSaid : Prop := Claim7.holds Tryz.pinned (.plain (OpenSpec.ofChange fnWalkSpec)) fnWalkCard

/-- THE SECOND FORM's CARD OF 'laws.FnExactStateCheck'. -/
def fnExactStateCheckUptoCard : Claim7 := { stood := { row := fnExactStateCheckUptoRow, standIns := [], harness := (true, "7f34f77ed8ffe4c5ab95e251396f2c29d9b01b9e59b7c129f117c1d2fc805b04"), looks := true }, kinds := [], alts := [], laidByText := true, laidKinds := [.handle], laidTests := true, laidLooks := .later }
def FnExactStateCheckUptoCardSaid : Prop := Claim7.holds Tryz.pinned (.plain (OpenSpec.upto fnExactStateCheckSpec)) fnExactStateCheckUptoCard

/-- THE SECOND FORM's CARD OF 'laws.FnExactListTree'. -/
def fnExactListTreeUptoCard : Claim7 := { stood := { row := fnExactListTreeUptoRow, standIns := [], harness := (true, "7f34f77ed8ffe4c5ab95e251396f2c29d9b01b9e59b7c129f117c1d2fc805b04"), looks := true }, kinds := [], alts := [], laidByText := true, laidKinds := [.handle], laidTests := true, laidLooks := .later }
def FnExactListTreeUptoCardSaid : Prop := Claim7.holds Tryz.pinned (.plain (OpenSpec.upto fnExactListTreeSpec)) fnExactListTreeUptoCard

/-- THE SECOND FORM's CARD OF 'laws.FnExactWalk'. -/
def fnExactWalkUptoCard : Claim7 := { stood := { row := fnExactWalkUptoRow, standIns := [], harness := (true, "7f34f77ed8ffe4c5ab95e251396f2c29d9b01b9e59b7c129f117c1d2fc805b04"), looks := true }, kinds := [], alts := [], laidByText := true, laidKinds := [.handle], laidTests := true, laidLooks := .later }
def FnExactWalkUptoCardSaid : Prop := Claim7.holds Tryz.pinned (.plain (OpenSpec.upto fnExactWalkSpec)) fnExactWalkUptoCard

/-- THE SECOND FORM's CARD OF 'laws.FnExactWalkDir'. -/
def fnExactWalkDirUptoCard : Claim7 := { stood := { row := fnExactWalkDirUptoRow, standIns := [], harness := (true, "7f34f77ed8ffe4c5ab95e251396f2c29d9b01b9e59b7c129f117c1d2fc805b04"), looks := true }, kinds := [], alts := [], laidByText := true, laidKinds := [.handle], laidTests := true, laidLooks := .later }
def FnExactWalkDirUptoCardSaid : Prop := Claim7.holds Tryz.pinned (.plain (OpenSpec.upto fnExactWalkDirSpec)) fnExactWalkDirUptoCard

/-- THE SECOND FORM's CARD OF 'laws.FnWalk'. -/
def fnWalkUptoCard : Claim7 := { stood := { row := fnWalkUptoRow, standIns := [], harness := (true, "7f34f77ed8ffe4c5ab95e251396f2c29d9b01b9e59b7c129f117c1d2fc805b04"), looks := true }, kinds := [], alts := [], laidByText := true, laidKinds := [.handle], laidTests := true, laidLooks := .later }
def FnWalkUptoCardSaid : Prop := Claim7.holds Tryz.pinned (.plain (OpenSpec.upto fnWalkSpec)) fnWalkUptoCard
end Rows
end Go.Proofs.YtplieplmhdfndaaGreatDoor
