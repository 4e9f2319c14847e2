/- An inode that came in, opened: twenty-four integers. -/
import Derived.Test.YtojbohdabnbpfaaDoorLawEncI
import Derived.Test.YtojbohdabnbpfaaDoorRootO
import Derived.Test.YtojbohdabnbpfaaDoorInoL
import Derived.ProofKit
import Derived.OpenShut
namespace Go.Proofs.YtojbohdabnbpfaaDoor
set_option linter.unusedVariables false
set_option linter.unusedSimpArgs false
open Go.ChangeShapes Go.WideShapes Go.ChangeAt Go.RowKit

set_option maxRecDepth 100000 in
/-- An inode that came in is twenty-four integers. -/
theorem open_inode {H : Type} {enc : TypeId × Value → H} {W : World} {r : Reach} {b0 base : Nat} {spare : TypeId → Bool} {held : Bool} {v : Value} {d : DataW H} {pl : List MemPlace} (hv : Value.okWide Tryd.prog W r b0 45 v) (h : DataW.Trod enc Tryd.prog W base spare held 45 v d pl) :
    ∃ k0 k1 k2 k3 k4 k5 k6 k7 k8 s ds p q, ds.length = 12 ∧ v = .agg (cellsI (inoI [k0, k1, k2, k3, k4, k5, k6, k7, k8] s ds p q)) := by
  obtain ⟨cs, rfl, hsz⟩ := Go.WideShapes.okWide_struct Tryd.underlying45 hv
  rw [cellsL24] at hsz
  obtain ⟨fuel, hf⟩ := h
  obtain ⟨rs, hlr, hrs⟩ := open_ino_cells (show (Value.agg cs).cells.toList.length = 24 from by show cs.toList.length = 24; rw [Array.length_toList]; exact hsz) hf
  obtain ⟨k0, k1, k2, k3, k4, k5, k6, k7, k8, s, ds, p, q, hd, rfl⟩ := ino_of_list rs hlr
  refine ⟨k0, k1, k2, k3, k4, k5, k6, k7, k8, s, ds, p, q, hd, ?_⟩
  have hrs' : cs.toList = _ := hrs
  rw [cellsI, ← hrs']
end Go.Proofs.YtojbohdabnbpfaaDoor
