/-
  DERIVED. GIVEN WITH THE SEED: THE CARDS: each row of YtkaennkfieebmaaDoorRows.lean that lists a variable, with what it lists TIED to the program's text (the seventh form; the later family's looks); each row that meets fmt, with fmt's text TOLD by the authors' own Lean function (tested against real Go, not proved from fmt's source: count such statements apart). THE CARD IS WHAT COUNTS. Prove the row's statement (the work); the ties are given (YtkaennkfieebmaaDoorTie.lean); close each card by the builder's one call (the guide's Derived/Test/ToyasCard.lean, 'card_holds'). Laid BY PROGRAM, IN A SANDBOX (cutbox-door.mjs). By AI agents, Wed Nov 11 2026. No macro, syntax, notation, axiom, sorry.
-/
import Derived.Test.YtkaennkfieebmaaDoorRows
import GoSem.ClaimSeven
namespace Go.Proofs.YtkaennkfieebmaaDoor
namespace Rows

/-- THE TIED CARD OF 'laws.FnExactDecodeSnap'. -/
def fnExactDecodeSnapCard : Claim7 := { stood := { row := fnExactDecodeSnapRow, standIns := [], harness := (true, "026897ff6ab65cb4fb0ef61cbfb1769dace3d5d30b8e6d232745ddd9688fee5f"), looks := true }, kinds := [], alts := [], laidByText := true, laidKinds := [.handle, .data], laidTests := true, laidLooks := .later }
def FnExactDecodeSnapCardSaid : Prop := Claim7.holds Tryd.pinned (.plain (OpenSpec.ofChange fnExactDecodeSnapSpec)) fnExactDecodeSnapCard

/-- THE TIED CARD OF 'laws.FnExactDecodeFsinfo'. -/
def fnExactDecodeFsinfoCard : Claim7 := { stood := { row := fnExactDecodeFsinfoRow, standIns := [], harness := (true, "026897ff6ab65cb4fb0ef61cbfb1769dace3d5d30b8e6d232745ddd9688fee5f"), looks := true }, kinds := [], alts := [], laidByText := true, laidKinds := [.handle, .data], laidTests := true, laidLooks := .later }
def FnExactDecodeFsinfoCardSaid : Prop := Claim7.holds Tryd.pinned (.plain (OpenSpec.ofChange fnExactDecodeFsinfoSpec)) fnExactDecodeFsinfoCard

/-- THE SECOND FORM's CARD OF 'laws.FnExactDecodeSnap'. -/
def fnExactDecodeSnapUptoCard : Claim7 := { stood := { row := fnExactDecodeSnapUptoRow, standIns := [], harness := (true, "026897ff6ab65cb4fb0ef61cbfb1769dace3d5d30b8e6d232745ddd9688fee5f"), looks := true }, kinds := [], alts := [], laidByText := true, laidKinds := [.handle, .data], laidTests := true, laidLooks := .later }
def FnExactDecodeSnapUptoCardSaid : Prop := Claim7.holds Tryd.pinned (.plain (OpenSpec.upto fnExactDecodeSnapSpec)) fnExactDecodeSnapUptoCard

/-- THE SECOND FORM's CARD OF 'laws.FnExactDecodeFsinfo'. -/
def fnExactDecodeFsinfoUptoCard : Claim7 := { stood := { row := fnExactDecodeFsinfoUptoRow, standIns := [], harness := (true, "026897ff6ab65cb4fb0ef61cbfb1769dace3d5d30b8e6d232745ddd9688fee5f"), looks := true }, kinds := [], alts := [], laidByText := true, laidKinds := [.handle, .data], laidTests := true, laidLooks := .later }
def FnExactDecodeFsinfoUptoCardSaid : Prop := Claim7.holds Tryd.pinned (.plain (OpenSpec.upto fnExactDecodeFsinfoSpec)) fnExactDecodeFsinfoUptoCard
end Rows
end Go.Proofs.YtkaennkfieebmaaDoor
