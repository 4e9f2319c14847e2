/-
  DERIVED. GIVEN WITH THE SEED: THE CARDS: each row of YtnbfpmmpmblmmaaGreatDoorRows.lean that lists a variable, with what it lists TIED to the program's text (the seventh form; the later family's looks); each row that meets fmt, with fmt's text TOLD by the authors' own Lean function (tested against real Go, not proved from fmt's source: count such statements apart). THE CARD IS WHAT COUNTS. Prove the row's statement (the work); the ties are given (YtnbfpmmpmblmmaaGreatDoorTie.lean); close each card by the builder's one call (the guide's Derived/Test/ToyasCard.lean, 'card_holds'). Laid BY PROGRAM, IN A SANDBOX (cutbox-door.mjs). By AI agents, Wed Nov 11 2026. No macro, syntax, notation, axiom, sorry.
-/
import Derived.Test.YtnbfpmmpmblmmaaGreatDoorRows
import GoSem.ClaimSeven
namespace Go.Proofs.YtnbfpmmpmblmmaaGreatDoor
namespace Rows

/-- THE TIED CARD OF 'laws.FnExactFingerprint'. -/
def fnExactFingerprintCard : Claim7 := { stood := { row := fnExactFingerprintRow, standIns := [], harness := (true, "d2cc4c965eafda78748d40a3a0c834bbce0cef39507b027e6bace784ffb11338"), looks := true }, kinds := [], alts := [], laidByText := true, laidKinds := [.handle], laidTests := true, laidLooks := .later }
def FnExactFingerprintCardSaid : Prop := Claim7.holds Tryz.pinned (.plain (OpenSpec.ofChange fnExactFingerprintSpec)) fnExactFingerprintCard

/-- THE SECOND FORM's CARD OF 'laws.FnExactFingerprint'. -/
def fnExactFingerprintUptoCard : Claim7 := { stood := { row := fnExactFingerprintUptoRow, standIns := [], harness := (true, "d2cc4c965eafda78748d40a3a0c834bbce0cef39507b027e6bace784ffb11338"), looks := true }, kinds := [], alts := [], laidByText := true, laidKinds := [.handle], laidTests := true, laidLooks := .later }
def FnExactFingerprintUptoCardSaid : Prop := Claim7.holds Tryz.pinned (.plain (OpenSpec.upto fnExactFingerprintSpec)) fnExactFingerprintUptoCard
end Rows
end Go.Proofs.YtnbfpmmpmblmmaaGreatDoor
