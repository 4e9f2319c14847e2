/-
  DERIVED. GIVEN WITH THE SEED: THE CARDS: each row of YtfpfhmnmcjnmaaaDoorRows.lean that lists a variable, with what it lists TIED to the program's text (the seventh form; the later family's looks); each row that meets fmt, with fmt's text TOLD by the authors' own Lean function (tested against real Go, not proved from fmt's source: count such statements apart). THE CARD IS WHAT COUNTS. Prove the row's statement (the work); the ties are given (YtfpfhmnmcjnmaaaDoorTie.lean); close each card by the builder's one call (the guide's Derived/Test/ToyasCard.lean, 'card_holds'). Laid BY PROGRAM, IN A SANDBOX (cutbox-door.mjs). By AI agents, Wed Nov 11 2026. No macro, syntax, notation, axiom, sorry.
-/
import Derived.Test.YtfpfhmnmcjnmaaaDoorRows
import GoSem.ClaimSeven
namespace Go.Proofs.YtfpfhmnmcjnmaaaDoor
namespace Rows

/-- THE TIED CARD OF 'laws.FnExactEncodeWords'. -/
def fnExactEncodeWordsCard : Claim7 := { stood := { row := fnExactEncodeWordsRow, standIns := [], harness := (true, "5e5991ec404059a313c0c80c4b8e6dbe3edec89663265f04491ba1307af03c6a"), looks := true }, kinds := [], alts := [], laidByText := true, laidKinds := [.handle], laidTests := true, laidLooks := .later }
def FnExactEncodeWordsCardSaid : Prop := Claim7.holds Tryd.pinned (.plain (OpenSpec.ofChange fnExactEncodeWordsSpec)) fnExactEncodeWordsCard

/-- THE TIED CARD OF 'laws.FnExactEncodeRoot'. -/
def fnExactEncodeRootCard : Claim7 := { stood := { row := fnExactEncodeRootRow, standIns := [], harness := (true, "5e5991ec404059a313c0c80c4b8e6dbe3edec89663265f04491ba1307af03c6a"), looks := true }, kinds := [], alts := [], laidByText := true, laidKinds := [.handle], laidTests := true, laidLooks := .later }
def FnExactEncodeRootCardSaid : Prop := Claim7.holds Tryd.pinned (.plain (OpenSpec.ofChange fnExactEncodeRootSpec)) fnExactEncodeRootCard

/-- THE TIED CARD OF 'laws.FnExactDecodeRoot'. -/
def fnExactDecodeRootCard : Claim7 := { stood := { row := fnExactDecodeRootRow, standIns := [], harness := (true, "5e5991ec404059a313c0c80c4b8e6dbe3edec89663265f04491ba1307af03c6a"), looks := true }, kinds := [], alts := [], laidByText := true, laidKinds := [.handle], laidTests := true, laidLooks := .later }
def FnExactDecodeRootCardSaid : Prop := Claim7.holds Tryd.pinned (.plain (OpenSpec.ofChange fnExactDecodeRootSpec)) fnExactDecodeRootCard

/-- THE TIED CARD OF 'laws.FnExactEncodeInode'. -/
def fnExactEncodeInodeCard : Claim7 := { stood := { row := fnExactEncodeInodeRow, standIns := [], harness := (true, "5e5991ec404059a313c0c80c4b8e6dbe3edec89663265f04491ba1307af03c6a"), looks := true }, kinds := [], alts := [], laidByText := true, laidKinds := [.handle], laidTests := true, laidLooks := .later }
def FnExactEncodeInodeCardSaid : Prop := Claim7.holds Tryd.pinned (.plain (OpenSpec.ofChange fnExactEncodeInodeSpec)) fnExactEncodeInodeCard

/-- THE TIED CARD OF 'laws.FnExactDecodeInode'. -/
def fnExactDecodeInodeCard : Claim7 := { stood := { row := fnExactDecodeInodeRow, standIns := [], harness := (true, "5e5991ec404059a313c0c80c4b8e6dbe3edec89663265f04491ba1307af03c6a"), looks := true }, kinds := [], alts := [], laidByText := true, laidKinds := [.handle], laidTests := true, laidLooks := .later }
def FnExactDecodeInodeCardSaid : Prop := Claim7.holds Tryd.pinned (.plain (OpenSpec.ofChange fnExactDecodeInodeSpec)) fnExactDecodeInodeCard

/-- THE TIED CARD OF 'laws.FnExactEncodeFsinfo'. -/
def fnExactEncodeFsinfoCard : Claim7 := { stood := { row := fnExactEncodeFsinfoRow, standIns := [], harness := (true, "5e5991ec404059a313c0c80c4b8e6dbe3edec89663265f04491ba1307af03c6a"), looks := true }, kinds := [], alts := [], laidByText := true, laidKinds := [.handle, .data], laidTests := true, laidLooks := .later }
def FnExactEncodeFsinfoCardSaid : Prop := Claim7.holds Tryd.pinned (.plain (OpenSpec.ofChange fnExactEncodeFsinfoSpec)) fnExactEncodeFsinfoCard

/-- THE TIED CARD OF 'laws.FnExactEncodeSnap'. -/
def fnExactEncodeSnapCard : Claim7 := { stood := { row := fnExactEncodeSnapRow, standIns := [], harness := (true, "5e5991ec404059a313c0c80c4b8e6dbe3edec89663265f04491ba1307af03c6a"), looks := true }, kinds := [], alts := [], laidByText := true, laidKinds := [.handle, .data], laidTests := true, laidLooks := .later }
def FnExactEncodeSnapCardSaid : Prop := Claim7.holds Tryd.pinned (.plain (OpenSpec.ofChange fnExactEncodeSnapSpec)) fnExactEncodeSnapCard

/-- THE TIED CARD OF 'laws.FnExactDecodeSnap'. -/
def fnExactDecodeSnapCard : Claim7 := { stood := { row := fnExactDecodeSnapRow, standIns := [], harness := (true, "5e5991ec404059a313c0c80c4b8e6dbe3edec89663265f04491ba1307af03c6a"), looks := true }, kinds := [], alts := [], laidByText := true, laidKinds := [.handle, .data], laidTests := true, laidLooks := .later }
def FnExactDecodeSnapCardSaid : Prop := Claim7.holds Tryd.pinned (.plain (OpenSpec.ofChange fnExactDecodeSnapSpec)) fnExactDecodeSnapCard

/-- THE TIED CARD OF 'laws.FnExactDecodeFsinfo'. -/
def fnExactDecodeFsinfoCard : Claim7 := { stood := { row := fnExactDecodeFsinfoRow, standIns := [], harness := (true, "5e5991ec404059a313c0c80c4b8e6dbe3edec89663265f04491ba1307af03c6a"), looks := true }, kinds := [], alts := [], laidByText := true, laidKinds := [.handle, .data], laidTests := true, laidLooks := .later }
def FnExactDecodeFsinfoCardSaid : Prop := Claim7.holds Tryd.pinned (.plain (OpenSpec.ofChange fnExactDecodeFsinfoSpec)) fnExactDecodeFsinfoCard

/-- THE SECOND FORM's CARD OF 'laws.FnExactEncodeWords'. -/
def fnExactEncodeWordsUptoCard : Claim7 := { stood := { row := fnExactEncodeWordsUptoRow, standIns := [], harness := (true, "5e5991ec404059a313c0c80c4b8e6dbe3edec89663265f04491ba1307af03c6a"), looks := true }, kinds := [], alts := [], laidByText := true, laidKinds := [.handle], laidTests := true, laidLooks := .later }
def FnExactEncodeWordsUptoCardSaid : Prop := Claim7.holds Tryd.pinned (.plain (OpenSpec.upto fnExactEncodeWordsSpec)) fnExactEncodeWordsUptoCard

/-- THE SECOND FORM's CARD OF 'laws.FnExactEncodeRoot'. -/
def fnExactEncodeRootUptoCard : Claim7 := { stood := { row := fnExactEncodeRootUptoRow, standIns := [], harness := (true, "5e5991ec404059a313c0c80c4b8e6dbe3edec89663265f04491ba1307af03c6a"), looks := true }, kinds := [], alts := [], laidByText := true, laidKinds := [.handle], laidTests := true, laidLooks := .later }
def FnExactEncodeRootUptoCardSaid : Prop := Claim7.holds Tryd.pinned (.plain (OpenSpec.upto fnExactEncodeRootSpec)) fnExactEncodeRootUptoCard

/-- THE SECOND FORM's CARD OF 'laws.FnExactDecodeRoot'. -/
def fnExactDecodeRootUptoCard : Claim7 := { stood := { row := fnExactDecodeRootUptoRow, standIns := [], harness := (true, "5e5991ec404059a313c0c80c4b8e6dbe3edec89663265f04491ba1307af03c6a"), looks := true }, kinds := [], alts := [], laidByText := true, laidKinds := [.handle], laidTests := true, laidLooks := .later }
def FnExactDecodeRootUptoCardSaid : Prop := Claim7.holds Tryd.pinned (.plain (OpenSpec.upto fnExactDecodeRootSpec)) fnExactDecodeRootUptoCard

/-- THE SECOND FORM's CARD OF 'laws.FnExactEncodeInode'. -/
def fnExactEncodeInodeUptoCard : Claim7 := { stood := { row := fnExactEncodeInodeUptoRow, standIns := [], harness := (true, "5e5991ec404059a313c0c80c4b8e6dbe3edec89663265f04491ba1307af03c6a"), looks := true }, kinds := [], alts := [], laidByText := true, laidKinds := [.handle], laidTests := true, laidLooks := .later }
def FnExactEncodeInodeUptoCardSaid : Prop := Claim7.holds Tryd.pinned (.plain (OpenSpec.upto fnExactEncodeInodeSpec)) fnExactEncodeInodeUptoCard

/-- THE SECOND FORM's CARD OF 'laws.FnExactDecodeInode'. -/
def fnExactDecodeInodeUptoCard : Claim7 := { stood := { row := fnExactDecodeInodeUptoRow, standIns := [], harness := (true, "5e5991ec404059a313c0c80c4b8e6dbe3edec89663265f04491ba1307af03c6a"), looks := true }, kinds := [], alts := [], laidByText := true, laidKinds := [.handle], laidTests := true, laidLooks := .later }
def FnExactDecodeInodeUptoCardSaid : Prop := Claim7.holds Tryd.pinned (.plain (OpenSpec.upto fnExactDecodeInodeSpec)) fnExactDecodeInodeUptoCard

/-- THE SECOND FORM's CARD OF 'laws.FnExactEncodeFsinfo'. -/
def fnExactEncodeFsinfoUptoCard : Claim7 := { stood := { row := fnExactEncodeFsinfoUptoRow, standIns := [], harness := (true, "5e5991ec404059a313c0c80c4b8e6dbe3edec89663265f04491ba1307af03c6a"), looks := true }, kinds := [], alts := [], laidByText := true, laidKinds := [.handle, .data], laidTests := true, laidLooks := .later }
def FnExactEncodeFsinfoUptoCardSaid : Prop := Claim7.holds Tryd.pinned (.plain (OpenSpec.upto fnExactEncodeFsinfoSpec)) fnExactEncodeFsinfoUptoCard

/-- THE SECOND FORM's CARD OF 'laws.FnExactEncodeSnap'. -/
def fnExactEncodeSnapUptoCard : Claim7 := { stood := { row := fnExactEncodeSnapUptoRow, standIns := [], harness := (true, "5e5991ec404059a313c0c80c4b8e6dbe3edec89663265f04491ba1307af03c6a"), looks := true }, kinds := [], alts := [], laidByText := true, laidKinds := [.handle, .data], laidTests := true, laidLooks := .later }
def FnExactEncodeSnapUptoCardSaid : Prop := Claim7.holds Tryd.pinned (.plain (OpenSpec.upto fnExactEncodeSnapSpec)) fnExactEncodeSnapUptoCard

/-- THE SECOND FORM's CARD OF 'laws.FnExactDecodeSnap'. -/
def fnExactDecodeSnapUptoCard : Claim7 := { stood := { row := fnExactDecodeSnapUptoRow, standIns := [], harness := (true, "5e5991ec404059a313c0c80c4b8e6dbe3edec89663265f04491ba1307af03c6a"), looks := true }, kinds := [], alts := [], laidByText := true, laidKinds := [.handle, .data], laidTests := true, laidLooks := .later }
def FnExactDecodeSnapUptoCardSaid : Prop := Claim7.holds Tryd.pinned (.plain (OpenSpec.upto fnExactDecodeSnapSpec)) fnExactDecodeSnapUptoCard

/-- THE SECOND FORM's CARD OF 'laws.FnExactDecodeFsinfo'. -/
def fnExactDecodeFsinfoUptoCard : Claim7 := { stood := { row := fnExactDecodeFsinfoUptoRow, standIns := [], harness := (true, "5e5991ec404059a313c0c80c4b8e6dbe3edec89663265f04491ba1307af03c6a"), looks := true }, kinds := [], alts := [], laidByText := true, laidKinds := [.handle, .data], laidTests := true, laidLooks := .later }
def FnExactDecodeFsinfoUptoCardSaid : Prop := Claim7.holds Tryd.pinned (.plain (OpenSpec.upto fnExactDecodeFsinfoSpec)) fnExactDecodeFsinfoUptoCard
end Rows
end Go.Proofs.YtfpfhmnmcjnmaaaDoor
