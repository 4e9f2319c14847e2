/- The model's DecodeRoot, and the comparison of two roots. The program tells a root: told at Inode; DecodeRoot. -/
import Derived.Test.YtfkmnmopkblopaaDoorZk24
import Derived.Laws.BytesArg
import Derived.Test.YtfkmnmopkblopaaDoorZk22
import Derived.Test.YtfkmnmopkblopaaDoorZk19
import Derived.Deep.RegionHeld3
namespace Go.Proofs.YtfkmnmopkblopaaDoor
set_option linter.unusedVariables false
set_option linter.unusedSimpArgs false
open Go.RowKit

theorem spec_bytes (zs : List Int) (h : ∀ z ∈ zs, 0 ≤ z ∧ z < 256) (hz : zs.length = 64) (hR : rightR ((gval (zs.take 8) : Nat) : Int) (gwords zs 12) ((gval ((zs.drop 56).take 4) : Nat) : Int) ((gval ((zs.drop 60).take 4) : Nat) : Int) = true) :
    bytesR ((gval (zs.take 8) : Nat) : Int) (gwords zs 12) ((gval ((zs.drop 56).take 4) : Nat) : Int) ((gval ((zs.drop 60).take 4) : Nat) : Int) = zs := by
  have h3 : gwords zs 12 ++ [((gval ((zs.drop 56).take 4) : Nat) : Int), ((gval ((zs.drop 60).take 4) : Nat) : Int)] = wordsFrom zs 8 14 := by
    rw [wordsFrom_succ, wordsFrom_succ, gwords_words zs h, gval4 zs h, gval4 zs h]
    simp
  obtain ⟨_, _, _, h4, h5⟩ := root_agree zs _ _ _ _ h hz (gwords_len zs 12) (show RootAt zs 0 _ (gwords zs 12) _ _ from ⟨rfl, by rw [h3]⟩)
  rw [h4] at h5
  obtain ⟨h6, h7⟩ := h5 hR
  rw [← h6]
  exact h7

/-- What DecodeRoot tells of bytes. -/
def okDR (zs : List Int) : Bool := decide (zs.length = 64) && rightR ((gval (zs.take 8) : Nat) : Int) (gwords zs 12) ((gval ((zs.drop 56).take 4) : Nat) : Int) ((gval ((zs.drop 60).take 4) : Nat) : Int)
def decR (zs : List Int) : List Int := if okDR zs = true then rootI ((gval (zs.take 8) : Nat) : Int) (gwords zs 12) ((gval ((zs.drop 56).take 4) : Nat) : Int) ((gval ((zs.drop 60).take 4) : Nat) : Int) else noRoot
def codeDR (zs : List Int) : Int := if okDR zs = true then 0 else 21
theorem decR_root (zs : List Int) : ∃ s ds p q, ds.length = 12 ∧ decR zs = rootI s ds p q := by
  unfold decR
  split
  · exact ⟨_, _, _, _, gwords_len zs 12, rfl⟩
  · exact ⟨0, List.replicate 12 0, 0, 0, rfl, rfl⟩
end Go.Proofs.YtfkmnmopkblopaaDoor

namespace Go.Proofs.YtfkmnmopkblopaaDoor
set_option linter.unusedVariables false
set_option linter.unusedSimpArgs false
open Go.RowKit

def noIno : List Int := List.replicate 24 0

theorem noIno_range {w : World} {b : Nat} {t : TypeId} (h : Blk w b (cellsI noIno) t) : w.rangeAt b 0 (noIno.map (Value.int .i64)) := by
  have := h.range 0 24 (by decide)
  exact this
end Go.Proofs.YtfkmnmopkblopaaDoor
