/-
  DERIVED. GIVEN WITH THE SEED: THE CARDS: each row of YthkoflpcinbgeaaDoorRows.lean that lists a variable, with what it lists TIED to the program's text (the seventh form; the later family's looks); each row that meets fmt, with fmt's text TOLD by the authors' own Lean function (tested against real Go, not proved from fmt's source: count such statements apart). THE CARD IS WHAT COUNTS. Prove the row's statement (the work); the ties are given (YthkoflpcinbgeaaDoorTie.lean); close each card by the builder's one call (the guide's Derived/Test/ToyasCard.lean, 'card_holds'). Laid BY PROGRAM, IN A SANDBOX (cutbox-door.mjs). By AI agents, Wed Nov 11 2026. No macro, syntax, notation, axiom, sorry.
-/
import Derived.Test.YthkoflpcinbgeaaDoorRows
import GoSem.ClaimSeven
namespace Go.Proofs.YthkoflpcinbgeaaDoor
namespace Rows

/-- THE TIED CARD OF 'laws.FnExactEncodeOp'. -/
def fnExactEncodeOpCard : Claim7 := { stood := { row := fnExactEncodeOpRow, standIns := [], harness := (true, "f06237ab4aa8f4fded182272af7827c43a44f1560b161cffae5e08d5328c7ad2"), looks := true }, kinds := [], alts := [], laidByText := true, laidKinds := [.handle], laidTests := true, laidLooks := .later }
def FnExactEncodeOpCardSaid : Prop := Claim7.holds Tryd.pinned (.plain (OpenSpec.ofChange fnExactEncodeOpSpec)) fnExactEncodeOpCard

/-- THE TIED CARD OF 'laws.FnExactDecodeOp'. -/
def fnExactDecodeOpCard : Claim7 := { stood := { row := fnExactDecodeOpRow, standIns := [], harness := (true, "f06237ab4aa8f4fded182272af7827c43a44f1560b161cffae5e08d5328c7ad2"), looks := true }, kinds := [], alts := [], laidByText := true, laidKinds := [.handle], laidTests := true, laidLooks := .later }
def FnExactDecodeOpCardSaid : Prop := Claim7.holds Tryd.pinned (.plain (OpenSpec.ofChange fnExactDecodeOpSpec)) fnExactDecodeOpCard

/-- THE TIED CARD OF 'laws.FnExactLogRecord'. -/
def fnExactLogRecordCard : Claim7 := { stood := { row := fnExactLogRecordRow, standIns := [], harness := (true, "f06237ab4aa8f4fded182272af7827c43a44f1560b161cffae5e08d5328c7ad2"), looks := true }, kinds := [], alts := [], laidByText := true, laidKinds := [.handle], laidTests := true, laidLooks := .later }
def FnExactLogRecordCardSaid : Prop := Claim7.holds Tryd.pinned (.plain (OpenSpec.ofChange fnExactLogRecordSpec)) fnExactLogRecordCard

/-- THE SECOND FORM's CARD OF 'laws.FnExactEncodeOp'. -/
def fnExactEncodeOpUptoCard : Claim7 := { stood := { row := fnExactEncodeOpUptoRow, standIns := [], harness := (true, "f06237ab4aa8f4fded182272af7827c43a44f1560b161cffae5e08d5328c7ad2"), looks := true }, kinds := [], alts := [], laidByText := true, laidKinds := [.handle], laidTests := true, laidLooks := .later }
def FnExactEncodeOpUptoCardSaid : Prop := Claim7.holds Tryd.pinned (.plain (OpenSpec.upto fnExactEncodeOpSpec)) fnExactEncodeOpUptoCard

/-- THE SECOND FORM's CARD OF 'laws.FnExactDecodeOp'. -/
def fnExactDecodeOpUptoCard : Claim7 := { stood := { row := fnExactDecodeOpUptoRow, standIns := [], harness := (true, "f06237ab4aa8f4fded182272af7827c43a44f1560b161cffae5e08d5328c7ad2"), looks := true }, kinds := [], alts := [], laidByText := true, laidKinds := [.handle], laidTests := true, laidLooks := .later }
def FnExactDecodeOpUptoCardSaid : Prop := Claim7.holds Tryd.pinned (.plain (OpenSpec.upto fnExactDecodeOpSpec)) fnExactDecodeOpUptoCard

/-- THE SECOND FORM's CARD OF 'laws.FnExactLogRecord'. -/
def fnExactLogRecordUptoCard : Claim7 := { stood := { row := fnExactLogRecordUptoRow, standIns := [], harness := (true, "f06237ab4aa8f4fded182272af7827c43a44f1560b161cffae5e08d5328c7ad2"), looks := true }, kinds := [], alts := [], laidByText := true, laidKinds := [.handle], laidTests := true, laidLooks := .later }
def FnExactLogRecordUptoCardSaid : Prop := Claim7.holds Tryd.pinned (.plain (OpenSpec.upto fnExactLogRecordSpec)) fnExactLogRecordUptoCard
end Rows
end Go.Proofs.YthkoflpcinbgeaaDoor
